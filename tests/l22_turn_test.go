package tests

import (
	"math"
	"math/big"
	"slices"
	"testing"

	"loop.example/alidade/impl"
)

// most is how far a way may be up, or to the right.
const most = impl.SpanUnit / 2

// turnNums are few enough to take two of them each way: the edges, the smallest ones, and ordinary ones of every size, either way.
func turnNums() []int {
	return eitherWay([]int{0, 1, 2, 3, 5, 1000, 999983, 12345678, 300000000, 400000000, most - 1, most})
}

// turnWays are all ways of two of these numbers, nowhere among them.
func turnWays() []wayPlace {
	var out []wayPlace
	for _, up := range turnNums() {
		for _, right := range turnNums() {
			out = append(out, wayPlace{up, right})
		}
	}
	return out
}

// fewTurnWays are few enough to turn them by very many angles: each quarter, its edges, and its corner.
func fewTurnWays() []wayPlace {
	var out []wayPlace
	for _, p := range []wayPlace{{0, 0}, {0, 1}, {1, 0}, {1, 1}, {0, most}, {most, 0}, {most, most}, {1, most}, {most, 1}, {3, 7}, {300000000, 400000000}, {123456789, 498765432}, {491827364, 1618033}} {
		out = append(out, p, wayPlace{p.up, -p.right}, wayPlace{-p.up, p.right}, wayPlace{-p.up, -p.right})
	}
	return out
}

// turnsBy are angles in each quarter, the edges and what lies beside them, beyond a turn, and up to AngMax, either way.
func turnsBy() []int {
	out := []int{angMax, angMax - 1, angMax - turn, 7716*turn + 1, 7716 * turn, 123456789012, 2*turn + 4545678, 3*turn - 1}
	for at := 0; at <= turn+quart; at += quart {
		out = append(out, at-1, at, at+1)
	}
	for at := 0; at < turn; at += quart {
		out = append(out, at+987654, at+twelfth, at+eighth, at+eighth+1, at+2*twelfth, at+29876543)
	}
	for _, a := range slices.Clone(out) {
		out = append(out, -a)
	}
	slices.Sort(out)
	return slices.Compact(out)
}

func eachTurn(do func(p wayPlace, a int)) {
	for _, a := range turnsBy() {
		for _, p := range turnWays() {
			do(p, a)
		}
	}
}

// bothWays are spans of how far it is up, and to the right.
type bothWays struct{ up, right impl.Span }

func mustTurn(t *testing.T, p wayPlace, a int) bothWays {
	t.Helper()
	up, right, ok := impl.TurnBy(p.up, p.right, a)
	if !ok {
		t.Fatalf("TurnBy(%d, %d, %d) is false", p.up, p.right, a)
	}
	return bothWays{up, right}
}

func mustLong(t *testing.T, p wayPlace) impl.Span {
	t.Helper()
	s, ok := impl.TurnLong(p.up, p.right)
	if !ok {
		t.Fatalf("TurnLong(%d, %d) is false", p.up, p.right)
	}
	return s
}

// squaresOf are both squares of a way together; parts of one are not taken away from them.
func squaresOf(p wayPlace) *big.Int {
	up, right := big.NewInt(int64(p.up)), big.NewInt(int64(p.right))
	return new(big.Int).Add(times(up, up), times(right, right))
}

// The chapter's words, once more, by numbers of any size.

func (k sinesKept) turned(p wayPlace, a int) bothWays {
	upByCos, rightBySine := mulInWords(point(p.up), k.cos(a)), mulInWords(point(p.right), k.sine(a))
	rightByCos, upBySine := mulInWords(point(p.right), k.cos(a)), mulInWords(point(p.up), k.sine(a))
	return bothWays{
		up:    span(upByCos.Low+rightBySine.Low, upByCos.High+rightBySine.High),
		right: span(rightByCos.Low-upBySine.High, rightByCos.High-upBySine.Low),
	}
}

func longInWords(p wayPlace) impl.Span {
	squares := squaresOf(p)
	root := new(big.Int).Sqrt(squares)
	if times(root, root).Cmp(squares) == 0 {
		return point(int(root.Int64()))
	}
	return span(int(root.Int64()), int(root.Int64())+1)
}

func TestTurnJustAsTheWordsSay(t *testing.T) {
	kept := sinesKept{}
	wide := 0
	hold := func(p wayPlace, a int) {
		got, want := mustTurn(t, p, a), kept.turned(p, a)
		if got != want {
			t.Errorf("TurnBy(%d, %d, %d) is %v, want %v", p.up, p.right, a, got, want)
		}
		// Only here it is to be seen which ends go together.
		if p.up != 0 && p.right != 0 && got.up.Low < got.up.High && got.right.Low < got.right.High {
			wide++
		}
	}
	eachTurn(hold)
	for _, a := range sineAngles() {
		for _, p := range fewTurnWays() {
			hold(p, a)
		}
	}
	if wide < 10000 {
		t.Errorf("only %d are wide both ways", wide)
	}
}

func TestLongJustAsTheWordsSay(t *testing.T) {
	ways := append(turnWays(), fewTurnWays()...)
	for up := -most; up <= most; up += 7654321 {
		for right := -most; right <= most; right += 9876543 {
			ways = append(ways, wayPlace{up, right})
		}
	}
	for up := -40; up <= 40; up++ {
		for right := -40; right <= 40; right++ {
			ways = append(ways, wayPlace{up, right})
		}
	}
	exact := 0
	for _, p := range ways {
		got, want := mustLong(t, p), longInWords(p)
		if got != want {
			t.Errorf("TurnLong(%d, %d) is %v, want %v", p.up, p.right, got, want)
		}
		if got.Low == got.High && p.up != 0 && p.right != 0 {
			exact++
		}
	}
	if exact < 100 {
		t.Errorf("only %d are exact, though neither straight up nor to the right", exact)
	}
}

// The sine of 12 degrees is {207911688 207911694}, the cosine {978147598 978147603}: of these most of it is reckoned.
func TestTurnByHand(t *testing.T) {
	deg := impl.AngDegree
	for _, c := range []struct {
		up, right, a      int
		upward, rightward impl.Span
	}{
		{0, 0, 0, point(0), point(0)},
		{0, 0, 12 * deg, point(0), point(0)},
		{300000000, 400000000, 0, point(300000000), point(400000000)},
		{300000000, 400000000, 90 * deg, point(400000000), point(-300000000)},
		{300000000, 400000000, 180 * deg, point(-300000000), point(-400000000)},
		{300000000, 400000000, 270 * deg, point(-400000000), point(300000000)},
		{300000000, 400000000, -90 * deg, point(-400000000), point(300000000)},
		{300000000, 400000000, 12 * deg, span(376608954, 376608959), span(328885530, 328885536)},
		{300000000, 400000000, -12 * deg, span(210279601, 210279606), span(453632545, 453632551)},
		{300000000, -400000000, 12 * deg, span(210279601, 210279606), span(-453632551, -453632545)},
		{-300000000, 400000000, 12 * deg, span(-210279606, -210279601), span(453632545, 453632551)},
		{-300000000, -400000000, 12 * deg, span(-376608959, -376608954), span(-328885536, -328885530)},
		{300000000, 400000000, 102 * deg, span(328885530, 328885536), span(-376608959, -376608954)},
		{300000000, 400000000, 192 * deg, span(-376608959, -376608954), span(-328885536, -328885530)},
		{300000000, 400000000, 282 * deg, span(-328885536, -328885530), span(376608954, 376608959)},
		{300000000, 400000000, 372 * deg, span(376608954, 376608959), span(328885530, 328885536)},
		{3, 5, 12 * deg, span(3, 5), span(3, 5)},
		{0, 1, 12 * deg, span(0, 1), span(0, 1)},
		{1, 0, 12 * deg, span(0, 1), span(-1, 0)},
		{1, 1, 12 * deg, span(0, 2), span(-1, 1)},
		{-1, 1, 12 * deg, span(-1, 1), span(0, 2)},
		{0, 400000000, 30 * deg, point(200000000), span(346410160, 346410164)},
		{400000000, 0, 30 * deg, span(346410160, 346410164), point(-200000000)},
		{most, most, 45 * deg, span(707106776, 707106786), span(-5, 5)},
		{most, -most, 45 * deg, span(-5, 5), span(-707106786, -707106776)},
		{-most, most, 45 * deg, span(-5, 5), span(707106776, 707106786)},
		{-most, -most, 45 * deg, span(-707106786, -707106776), span(-5, 5)},
		{most, most, -45 * deg, span(-5, 5), span(707106776, 707106786)},
		{most, most, 1, span(500000022, 500000025), span(499999974, 499999977)},
		{most, most, -1, span(499999974, 499999977), span(500000022, 500000025)},
	} {
		got := mustTurn(t, wayPlace{c.up, c.right}, c.a)
		if got != (bothWays{c.upward, c.rightward}) {
			t.Errorf("TurnBy(%d, %d, %d) is %v, want %v and %v", c.up, c.right, c.a, got, c.upward, c.rightward)
		}
	}
}

func TestLongByHand(t *testing.T) {
	for _, c := range []struct {
		up, right int
		want      impl.Span
	}{
		{0, 0, point(0)},
		{1, 0, point(1)},
		{1, 1, span(1, 2)},
		{2, 1, span(2, 3)},
		{2, 2, span(2, 3)},
		{3, 4, point(5)},
		{3, 5, span(5, 6)},
		{5, 12, point(13)},
		{most, 0, point(most)},
		{most, 1, span(most, most+1)},
		{most - 1, 0, point(most - 1)},
		{300000000, 400000000, point(500000000)},
		{300000000, 400000001, span(500000000, 500000001)},
		{299999999, 400000000, span(499999999, 500000000)},
		{most, most, span(707106781, 707106782)},
	} {
		for _, p := range []wayPlace{{c.up, c.right}, {c.right, c.up}, {-c.up, c.right}, {c.up, -c.right}, {-c.up, -c.right}, {-c.right, -c.up}} {
			if got := mustLong(t, p); got != c.want {
				t.Errorf("TurnLong(%d, %d) is %v, want %v", p.up, p.right, got, c.want)
			}
		}
	}
}

// What is true, by far more figures than a span has.
func TestWhatIsTrueIsInTheTurnedWay(t *testing.T) {
	for _, a := range append(turnsBy(), edgeAngles()...) {
		sine, cos := trueSine(2*a), trueSine(2*a+2*quart)
		for _, p := range turnWays() {
			got := mustTurn(t, p, a)
			up, right := trueTimes(p.up, cos, p.right, sine), trueTimes(p.right, cos, -p.up, sine)
			if !surroundsTurned(got.up, up) || !surroundsTurned(got.right, right) {
				t.Errorf("TurnBy(%d, %d, %d) is %v, but %v and %v are true", p.up, p.right, a, got, up, right)
			}
		}
	}
}

// surroundsTurned is surrounds of parts that were taken so many times of what is true: that has the fault as often, too.
func surroundsTurned(s impl.Span, n *big.Int) bool {
	fault := times(big.NewInt(unit), trueFault)
	low, high := times(big.NewInt(int64(s.Low)), trueOne), times(big.NewInt(int64(s.High)), trueOne)
	return isNotAboveBy(low, n, fault) && isNotAboveBy(n, high, fault)
}

func isNotAboveBy(x *big.Int, y *big.Int, fault *big.Int) bool {
	return x.Cmp(new(big.Int).Add(y, fault)) <= 0
}

func TestPromise81SquaresOfTheEndsAreAround(t *testing.T) {
	for _, p := range append(turnWays(), fewTurnWays()...) {
		s, squares := mustLong(t, p), squaresOf(p)
		low, high := big.NewInt(int64(s.Low)), big.NewInt(int64(s.High))
		if s.Low < 0 || s.High-s.Low > 1 || times(low, low).Cmp(squares) > 0 || times(high, high).Cmp(squares) < 0 {
			t.Errorf("TurnLong(%d, %d) is %v, but its squares are %v", p.up, p.right, s, squares)
		}
	}
}

func TestPromise81TurnedAQuarterItIsAsLong(t *testing.T) {
	for _, p := range append(turnWays(), fewTurnWays()...) {
		s := mustLong(t, p)
		for _, a := range []int{quart, -quart, half, turn, -turn, 5 * quart} {
			turned := mustTurn(t, p, a)
			if got := mustLong(t, wayPlace{turned.up.Low, turned.right.High}); got != s {
				t.Errorf("TurnLong(%d, %d) is %v, turned by %d it is %v", p.up, p.right, s, a, got)
			}
		}
		if got := mustLong(t, wayPlace{p.right, -p.up}); got != s {
			t.Errorf("TurnLong(%d, %d) is %v, turned a quarter it is %v", p.up, p.right, s, got)
		}
	}
}

func TestPromise82BothSquaresAreInTheTurnedOnes(t *testing.T) {
	one := big.NewInt(unit)
	eachTurn(func(p wayPlace, a int) {
		got := mustTurn(t, p, a)
		both := mustOp(t, "SpanAdd", impl.SpanAdd, mustMul(t, got.up, got.up), mustMul(t, got.right, got.right))
		if squares := new(big.Rat).SetFrac(squaresOf(p), times(one, one)); !holds(both, squares) {
			t.Errorf("TurnBy(%d, %d, %d) is %v, its squares are %v, without %v", p.up, p.right, a, got, both, squares)
		}
	})
}

// What is told is not so wide that all would be in it.
func TestPromise82TheTurnedWayIsNarrow(t *testing.T) {
	eachTurn(func(p wayPlace, a int) {
		got := mustTurn(t, p, a)
		if !impl.SpanOk(got.up) || !impl.SpanOk(got.right) || got.up.High-got.up.Low > 64 || got.right.High-got.right.Low > 64 {
			t.Errorf("TurnBy(%d, %d, %d) is %v", p.up, p.right, a, got)
		}
	})
}

func TestPromise83TurnedByQuartersItIsExact(t *testing.T) {
	for _, p := range append(turnWays(), fewTurnWays()...) {
		for _, turns := range []int{0, 1, -1, 2, -2, 5000, -5000, 7715, -7715} {
			for quarts, want := range []wayPlace{p, {p.right, -p.up}, {-p.up, -p.right}, {-p.right, p.up}} {
				a := turns*turn + quarts*quart
				if got := mustTurn(t, p, a); got != (bothWays{point(want.up), point(want.right)}) {
					t.Errorf("TurnBy(%d, %d, %d) is %v, want %v", p.up, p.right, a, got, want)
				}
			}
		}
	}
}

func TestPromise84TheWayBackIsTurnedBack(t *testing.T) {
	eachTurn(func(p wayPlace, a int) {
		got, back := mustTurn(t, p, a), mustTurn(t, wayPlace{-p.up, -p.right}, a)
		if back.up != span(-got.up.High, -got.up.Low) || back.right != span(-got.right.High, -got.right.Low) {
			t.Errorf("TurnBy(%d, %d, %d) is %v, of the way back %v", p.up, p.right, a, got, back)
		}
	})
}

// Half a turn more is the way back, too.
func TestPromise84HalfATurnMoreIsTurnedBack(t *testing.T) {
	eachTurn(func(p wayPlace, a int) {
		if a > angMax-half {
			return
		}
		back, more := mustTurn(t, wayPlace{-p.up, -p.right}, a), mustTurn(t, p, a+half)
		if back != more {
			t.Errorf("TurnBy(%d, %d, %d) is %v, half a turn more %v", -p.up, -p.right, a, back, more)
		}
	})
}

// What is turned, and turned by as much the other way, has the way in it.
func TestPromise84TurnedTheOtherWayTheWayIsInIt(t *testing.T) {
	eachTurn(func(p wayPlace, a int) {
		got, sine, cos := mustTurn(t, p, a), mustSine(t, -a), mustCos(t, -a)
		up := mustOp(t, "SpanAdd", impl.SpanAdd, mustMul(t, got.up, cos), mustMul(t, got.right, sine))
		right := mustOp(t, "SpanSub", impl.SpanSub, mustMul(t, got.right, cos), mustMul(t, got.up, sine))
		if !impl.SpanHas(up, p.up, unit) || !impl.SpanHas(right, p.right, unit) {
			t.Errorf("TurnBy(%d, %d, %d) is %v, the other way %v and %v", p.up, p.right, a, got, up, right)
		}
	})
}

func TestPromise84AWholeTurnMoreChangesNothing(t *testing.T) {
	eachTurn(func(p wayPlace, a int) {
		got := mustTurn(t, p, a)
		for _, more := range []int{a + turn, a - turn, a + 2*turn, a - 7716*turn, a%turn + 7715*turn, a%turn - 7715*turn} {
			if more < -angMax || more > angMax {
				continue
			}
			if again := mustTurn(t, p, more); again != got {
				t.Errorf("TurnBy(%d, %d, %d) is %v, by %d %v", p.up, p.right, a, got, more, again)
			}
		}
	})
}

func TestTurnsAgainAndAtTheSameTime(t *testing.T) {
	saysTheSameAgain(t, func() []impl.Span {
		var out []impl.Span
		eachTurn(func(p wayPlace, a int) {
			up, right, _ := impl.TurnBy(p.up, p.right, a)
			long, _ := impl.TurnLong(p.up, p.right)
			out = append(out, up, right, long)
		})
		return out
	})
}

// beyondHalf are beyond the edge, by one or by far; squares of some of them would be small again, as they leave an int.
func beyondHalf() []int {
	return append([]int{most + 1, -most - 1, most + 2, -most - 2, unit - 1, unit, 1 - unit, -unit}, beyondOne()...)
}

func notTurned(t *testing.T, up int, right int, a int) {
	t.Helper()
	if upward, rightward, ok := impl.TurnBy(up, right, a); ok || upward != (impl.Span{}) || rightward != (impl.Span{}) {
		t.Errorf("TurnBy(%d, %d, %d) is %v, %v, %v", up, right, a, upward, rightward, ok)
	}
}

func notLong(t *testing.T, up int, right int) {
	t.Helper()
	if s, ok := impl.TurnLong(up, right); ok || s != (impl.Span{}) {
		t.Errorf("TurnLong(%d, %d) is %v, %v", up, right, s, ok)
	}
}

func TestWaysBeyondHalf(t *testing.T) {
	angles := []int{0, 1, -1, 4545678, quart, half, turn, -turn, angMax, -angMax, angMax + 1, -angMax - 1, math.MaxInt, math.MinInt}
	for _, wrong := range beyondHalf() {
		for _, other := range append(beyondHalf(), turnNums()...) {
			notLong(t, wrong, other)
			notLong(t, other, wrong)
			for _, a := range angles {
				notTurned(t, wrong, other, a)
				notTurned(t, other, wrong, a)
			}
		}
	}
}

func TestTurnsBeyondAngMax(t *testing.T) {
	nums := append(turnNums(), most+1, -most-1, math.MaxInt, math.MinInt)
	for _, a := range beyondAngMax() {
		for _, up := range nums {
			for _, right := range nums {
				notTurned(t, up, right, a)
			}
		}
	}
}
