package tests

import (
	"math"
	"math/big"
	"slices"
	"strings"
	"testing"

	"loop.example/alidade/impl"
)

const (
	quart   = impl.AngQuart
	eighth  = impl.AngQuart / 2
	twelfth = impl.AngTurn / 12
)

type sineFunc func(a int) (impl.Span, bool)

// sineFuncs are the three that have a span of each angle up to AngMax.
func sineFuncs() map[string]sineFunc {
	return map[string]sineFunc{"SineOf": impl.SineOf, "CosOf": impl.CosOf, "HalfOf": impl.HalfOf}
}

// edgeAngles are each twelfth, and each eighth, of two turns either way, and what lies about them, and the smallest angles.
func edgeAngles() []int {
	var out []int
	for _, step := range []int{twelfth, eighth} {
		for at := 0; at <= 2*turn; at += step {
			for a := at - 2; a <= at+2; a++ {
				out = append(out, a, -a)
			}
		}
	}
	for a := 0; a <= 60; a++ {
		out = append(out, a, -a)
	}
	return out
}

// sineAngles are those edges, angles up to AngMax, and many ordinary ones in each eighth of a turn.
func sineAngles() []int {
	out := append(edgeAngles(), manyAngles()...)
	for a := 987654; a <= 2*turn; a += 479001 {
		out = append(out, a, -a)
	}
	// Here the sum is told by fewer terms, or by more, than one step aside.
	for _, a := range []int{650, 652, 920, 37470, 37475, 37480, 32016097, 32016098, 32143270, 32143271} {
		out = append(out, a, -a, quart-a)
	}
	slices.Sort(out)
	return slices.Compact(out)
}

// someAngles are few enough to take two of them each way.
func someAngles() []int {
	var out []int
	for i, a := range sineAngles() {
		if i%11 == 0 || a%eighth == 0 || a%twelfth == 0 {
			out = append(out, a)
		}
	}
	return out
}

// arcAngles are at most an eighth of a turn either way.
func arcAngles() []int {
	out := []int{eighth, -eighth, eighth - 1, 1 - eighth}
	for _, a := range sineAngles() {
		if a >= -eighth && a <= eighth {
			out = append(out, a)
		}
	}
	slices.Sort(out)
	return slices.Compact(out)
}

func mustTell(t *testing.T, name string, of sineFunc, a int) impl.Span {
	t.Helper()
	s, ok := of(a)
	if !ok {
		t.Fatalf("%s(%d) is false", name, a)
	}
	return s
}

func mustSine(t *testing.T, a int) impl.Span {
	t.Helper()
	return mustTell(t, "SineOf", impl.SineOf, a)
}

func mustCos(t *testing.T, a int) impl.Span {
	t.Helper()
	return mustTell(t, "CosOf", impl.CosOf, a)
}

func mustHalf(t *testing.T, a int) impl.Span {
	t.Helper()
	return mustTell(t, "HalfOf", impl.HalfOf, a)
}

func mustArc(t *testing.T, a int) impl.Span {
	t.Helper()
	return mustTell(t, "ArcOf", impl.ArcOf, a)
}

func mustOp(t *testing.T, name string, op spanOp, s impl.Span, u impl.Span) impl.Span {
	t.Helper()
	got, ok := op(s, u)
	if !ok {
		t.Fatalf("%s of %v and %v is false", name, s, u)
	}
	return got
}

func mustMul(t *testing.T, s impl.Span, u impl.Span) impl.Span {
	t.Helper()
	return mustOp(t, "SpanMul", impl.SpanMul, s, u)
}

func meets(s impl.Span, u impl.Span) bool {
	_, ok := impl.SpanMeet(s, u)
	return ok
}

// The chapter's words, once more, by numbers of any size.

func divided(a *big.Int, b *big.Int, up bool) *big.Int {
	down, left := new(big.Int).DivMod(a, b, new(big.Int))
	if up && left.Sign() != 0 {
		return down.Add(down, big.NewInt(1))
	}
	return down
}

func times(a *big.Int, b *big.Int) *big.Int {
	return new(big.Int).Mul(a, b)
}

func arcInWords(h int) impl.Span {
	end := func(long int64, up bool) int {
		return int(divided(times(big.NewInt(int64(h)), big.NewInt(long)), big.NewInt(quart), up).Int64())
	}
	return span(end(785398163, false), end(785398164, true))
}

// termInWords is one end of the term behind a term.
func termInWords(end *big.Int, x int, n int, up bool) *big.Int {
	one, number := big.NewInt(unit), big.NewInt(int64(x))
	square := divided(times(number, number), one, up)
	return divided(divided(times(end, square), one, up), big.NewInt(int64(n*(n+1))), up)
}

func rowInWords(first int, x int, n int) impl.Span {
	low, high := big.NewInt(int64(first)), big.NewInt(int64(first))
	sum := point(first)
	for turns := 0; ; turns++ {
		if high.Sign() == 0 || n >= 40 {
			return sum
		}
		low, high = termInWords(low, x, n, false), termInWords(high, x, n, true)
		lower, upper := int(low.Int64()), int(high.Int64())
		if upper == 1 && lower == 0 {
			return span(sum.Low-1, sum.High+1)
		}
		if turns%2 == 0 {
			sum = span(sum.Low-upper, sum.High-lower)
		} else {
			sum = span(sum.Low+lower, sum.High+upper)
		}
		n += 2
	}
}

func sineInWords(h int) impl.Span {
	h = (h%(2*turn) + 2*turn) % (2 * turn)
	switch {
	case h >= turn:
		s := sineInWords(h - turn)
		return span(-s.High, -s.Low)
	case h > 2*quart:
		return sineInWords(turn - h)
	case h == 0:
		return point(0)
	case h == 21600000:
		return point(500000000)
	case h == 64800000:
		return point(1000000000)
	case h <= quart:
		arc := arcInWords(h)
		return span(max(0, rowInWords(arc.Low, arc.Low, 2).Low), rowInWords(arc.High, arc.High, 2).High)
	}
	arc := arcInWords(2*quart - h)
	return span(rowInWords(unit, arc.High, 1).Low, min(unit, rowInWords(unit, arc.Low, 1).High))
}

// divInWords divides all ends by fractions.
func divInWords(s impl.Span, u impl.Span) impl.Span {
	var parts []*big.Rat
	for _, x := range ends(s) {
		for _, y := range ends(u) {
			parts = append(parts, new(big.Rat).Quo(new(big.Rat).Mul(whole(x), whole(unit)), whole(y)))
		}
	}
	return around(parts...)
}

func tanInWords(a int) (impl.Span, bool) {
	sine, cos := sineInWords(2*a), sineInWords(2*a+2*quart)
	if cos.Low <= 0 && cos.High >= 0 {
		return impl.Span{}, false
	}
	s := divInWords(sine, cos)
	if s.Low < -spanMax || s.High > spanMax {
		return impl.Span{}, false
	}
	return s, true
}

func TestSineJustAsTheWordsSay(t *testing.T) {
	for _, a := range sineAngles() {
		if got, want := mustSine(t, a), sineInWords(2*a); got != want {
			t.Errorf("SineOf(%d) is %v, want %v", a, got, want)
		}
		if got, want := mustCos(t, a), sineInWords(2*a+2*quart); got != want {
			t.Errorf("CosOf(%d) is %v, want %v", a, got, want)
		}
		if got, want := mustHalf(t, a), sineInWords(a); got != want {
			t.Errorf("HalfOf(%d) is %v, want %v", a, got, want)
		}
		got, ok := impl.TanOf(a)
		if want, told := tanInWords(a); got != want || ok != told {
			t.Errorf("TanOf(%d) is %v, %v, want %v, %v", a, got, ok, want, told)
		}
	}
}

// TestHalvesJustAsTheWordsSay goes through all of a turn in odd and even steps, and through each half of the smallest angles.
func TestHalvesJustAsTheWordsSay(t *testing.T) {
	holdHalf := func(h int) {
		if got, want := mustHalf(t, h), sineInWords(h); got != want {
			t.Errorf("HalfOf(%d) is %v, want %v", h, got, want)
		}
	}
	for h := -2 * turn; h <= 2*turn; h += 39119 {
		holdHalf(h)
	}
	for h := 0; h <= 2500; h++ {
		holdHalf(h)
		holdHalf(2*quart - h)
	}
	// About here the first term grows beyond 1.
	for h := 74700; h <= 75200; h++ {
		holdHalf(h)
	}
	// And here the second one of a cosine.
	for h := 2*quart - 514000; h <= 2*quart-513000; h++ {
		holdHalf(h)
	}
}

func TestArcJustAsTheWordsSay(t *testing.T) {
	hold := func(a int) {
		want := arcInWords(2 * max(a, -a))
		if a < 0 {
			want = span(-want.High, -want.Low)
		}
		if got := mustArc(t, a); got != want {
			t.Errorf("ArcOf(%d) is %v, want %v", a, got, want)
		}
	}
	for _, a := range arcAngles() {
		hold(a)
	}
	for a := -eighth; a <= eighth; a += 3571 {
		hold(a)
	}
}

func TestSinesByHand(t *testing.T) {
	for _, c := range []struct {
		a               int
		sine, cos, half impl.Span
	}{
		{0, point(0), point(1000000000), point(0)},
		{1, span(47, 50), span(999999999, 1000000000), span(23, 26)},
		{2, span(95, 98), span(999999999, 1000000000), span(47, 50)},
		{3, span(144, 147), span(999999999, 1000000000), span(71, 74)},
		{100, span(4847, 4850), span(999999999, 1000000000), span(2423, 2426)},
		{1000, span(48480, 48483), span(999999997, 1000000000), span(24239, 24242)},
		{6000, span(290887, 290890), span(999999956, 999999959), span(145443, 145446)},
		{360000, span(17452404, 17452408), span(999847693, 999847697), span(8726534, 8726538)},
		{4545678, span(218601116, 218601122), span(975814298, 975814304), span(109967491, 109967496)},
		{5400000, span(258819042, 258819048), span(965925823, 965925828), span(130526190, 130526195)},
		{10799999, span(499999955, 499999963), span(866025426, 866025433), span(258819019, 258819025)},
		{10800000, point(500000000), span(866025401, 866025408), span(258819042, 258819048)},
		{10800001, span(500000039, 500000047), span(866025377, 866025384), span(258819065, 258819072)},
		{12345678, span(563433045, 563433053), span(826161723, 826161732), span(294820513, 294820520)},
		{16199999, span(707106742, 707106751), span(707106811, 707106820), span(382683406, 382683412)},
		{16200000, span(707106777, 707106785), span(707106777, 707106785), span(382683428, 382683434)},
		{16200001, span(707106811, 707106820), span(707106742, 707106751), span(382683451, 382683458)},
		{20000000, span(824675000, 824675008), span(565606873, 565606880), span(466043516, 466043524)},
		{21599999, span(866025377, 866025384), span(500000039, 500000047), span(499999977, 499999984)},
		{21600000, span(866025401, 866025408), point(500000000), point(500000000)},
		{21600001, span(866025426, 866025433), span(499999955, 499999963), span(500000018, 500000026)},
		{30000001, span(993238361, 993238366), span(116092863, 116092869), span(664795880, 664795889)},
		{32399999, span(999999999, 1000000000), span(47, 50), span(707106760, 707106769)},
		{32400000, point(1000000000), point(0), span(707106777, 707106785)},
	} {
		sinesAre(t, c.a, c.sine, c.cos, c.half)
		sinesAre(t, -c.a, impl.SpanNeg(c.sine), c.cos, impl.SpanNeg(c.half))
		sinesAre(t, c.a+turn, c.sine, c.cos, impl.SpanNeg(c.half))
		sinesAre(t, c.a+half, impl.SpanNeg(c.sine), impl.SpanNeg(c.cos), sineInWords(c.a+half))
		sinesAre(t, half-c.a, c.sine, impl.SpanNeg(c.cos), sineInWords(half-c.a))
		sinesAre(t, c.a+quart, c.cos, impl.SpanNeg(c.sine), sineInWords(c.a+quart))
	}
}

func sinesAre(t *testing.T, a int, sine impl.Span, cos impl.Span, half impl.Span) {
	t.Helper()
	if got, ok := impl.SineOf(a); !ok || got != sine {
		t.Errorf("SineOf(%d) is %v, %v, want %v", a, got, ok, sine)
	}
	if got, ok := impl.CosOf(a); !ok || got != cos {
		t.Errorf("CosOf(%d) is %v, %v, want %v", a, got, ok, cos)
	}
	if got, ok := impl.HalfOf(a); !ok || got != half {
		t.Errorf("HalfOf(%d) is %v, %v, want %v", a, got, ok, half)
	}
}

// farEnd is what AngMax is without whole turns.
const farEnd = 6400000

func TestSinesUpToAngMax(t *testing.T) {
	for back := range 3 {
		a := angMax - back
		for name, of := range map[string]sineFunc{"SineOf": impl.SineOf, "CosOf": impl.CosOf, "TanOf": impl.TanOf} {
			if got, want := mustTell(t, name, of, a), mustTell(t, name, of, farEnd-back); got != want {
				t.Errorf("%s(%d) is %v, want %v", name, a, got, want)
			}
			if got, want := mustTell(t, name, of, -a), mustTell(t, name, of, back-farEnd); got != want {
				t.Errorf("%s(%d) is %v, want %v", name, -a, got, want)
			}
		}
		// 7716 turns are an even number of them, so that half of it is whole turns, too.
		if got, want := mustHalf(t, a), mustHalf(t, farEnd-back); got != want {
			t.Errorf("HalfOf(%d) is %v, want %v", a, got, want)
		}
		if got, want := mustHalf(t, -a), mustHalf(t, back-farEnd); got != want {
			t.Errorf("HalfOf(%d) is %v, want %v", -a, got, want)
		}
	}
}

// What is true, by far more figures than a span has.

func figuresOf(text string) *big.Int {
	n, _ := new(big.Int).SetString(text, 10)
	return n
}

// One, a part, what rounding may do at most, and a whole circle, with 60 figures behind the point.
var (
	trueOne    = figuresOf("1" + strings.Repeat("0", 60))
	truePart   = figuresOf("1" + strings.Repeat("0", 51))
	trueFault  = figuresOf("1" + strings.Repeat("0", 20))
	trueCircle = figuresOf("6283185307179586476925286766559005768394338798750211641949889")
)

// trueArc is how long halves of a part are.
func trueArc(h int) *big.Int {
	arc := times(trueCircle, big.NewInt(int64(h)))
	return arc.Quo(arc, big.NewInt(2*turn))
}

func trueSine(h int) *big.Int {
	x := trueArc(h % (2 * turn))
	square := times(x, x)
	square.Quo(square, trueOne)
	sum, term := new(big.Int).Set(x), new(big.Int).Set(x)
	for n := int64(2); term.Sign() != 0; n += 2 {
		term.Quo(term.Neg(term.Mul(term, square)), times(trueOne, big.NewInt(n*(n+1))))
		sum.Add(sum, term)
	}
	return sum
}

// surrounds says whether a number that is true but for trueFault is in a span of that many parts.
func surrounds(s impl.Span, n *big.Int, part *big.Int) bool {
	low, high := times(big.NewInt(int64(s.Low)), part), times(big.NewInt(int64(s.High)), part)
	return low.Sub(low, trueFault).Cmp(n) <= 0 && n.Cmp(high.Add(high, trueFault)) <= 0
}

func TestWhatIsTrueIsInTheSpan(t *testing.T) {
	for _, a := range sineAngles() {
		sine, cos := trueSine(2*a), trueSine(2*a+2*quart)
		if s := mustSine(t, a); !surrounds(s, sine, truePart) {
			t.Errorf("SineOf(%d) is %v, but %v is true", a, s, sine)
		}
		if s := mustCos(t, a); !surrounds(s, cos, truePart) {
			t.Errorf("CosOf(%d) is %v, but %v is true", a, s, cos)
		}
		if s := mustHalf(t, a); !surrounds(s, trueSine(a), truePart) {
			t.Errorf("HalfOf(%d) is %v, but %v is true", a, s, trueSine(a))
		}
		// Instead of dividing both, the ends are taken that many times.
		if cos.Sign() < 0 {
			sine, cos = new(big.Int).Neg(sine), new(big.Int).Neg(cos)
		}
		if s, ok := impl.TanOf(a); ok && !surrounds(s, times(sine, big.NewInt(unit)), cos) {
			t.Errorf("TanOf(%d) is %v, but %v by %v is true", a, s, sine, cos)
		}
	}
	for _, a := range arcAngles() {
		if s := mustArc(t, a); !surrounds(s, trueArc(2*a), truePart) {
			t.Errorf("ArcOf(%d) is %v, but %v is true", a, s, trueArc(2*a))
		}
	}
}

func TestPromise42SpansAreOkAndNarrow(t *testing.T) {
	for name, of := range sineFuncs() {
		widest := 0
		for _, a := range sineAngles() {
			s := mustTell(t, name, of, a)
			if !impl.SpanOk(s) || s.Low < -unit || s.High > unit || s.High-s.Low > 64 {
				t.Errorf("%s(%d) is %v", name, a, s)
			}
			widest = max(widest, s.High-s.Low)
		}
		if widest == 0 {
			t.Errorf("%s is never wider than nothing", name)
		}
	}
}

// Where a quarter is met to the part the upper end would be above one.
func TestPromise42NotAboveOneNextToAQuarter(t *testing.T) {
	for apart := 1; apart <= 3000; apart++ {
		for _, h := range []int{2*quart - apart, 2*quart + apart} {
			if s := mustHalf(t, h); s.High > unit || s.Low >= s.High {
				t.Errorf("HalfOf(%d) is %v", h, s)
			}
			if s := mustHalf(t, -h); s.Low < -unit || s.Low >= s.High {
				t.Errorf("HalfOf(%d) is %v", -h, s)
			}
		}
	}
}

func TestPromise43ATurnMoreChangesNothing(t *testing.T) {
	held := 0
	for _, a := range sineAngles() {
		for _, turns := range []int{-15432, -7716, -2, -1, 1, 2, 3, 7715, 15432} {
			more := a + turns*turn
			if more < -angMax || more > angMax {
				continue
			}
			held++
			if got, want := mustSine(t, more), mustSine(t, a); got != want {
				t.Errorf("SineOf(%d) is %v, with %d turns more %v", a, want, turns, got)
			}
			if got, want := mustCos(t, more), mustCos(t, a); got != want {
				t.Errorf("CosOf(%d) is %v, with %d turns more %v", a, want, turns, got)
			}
			want := mustHalf(t, a)
			if turns%2 != 0 {
				want = impl.SpanNeg(want)
			}
			if got := mustHalf(t, more); got != want {
				t.Errorf("HalfOf(%d), with %d turns more, is %v, want %v", a, turns, got, want)
			}
		}
	}
	if held < 5000 {
		t.Errorf("only %d were held against each other", held)
	}
}

func TestPromise43TurnedAbout(t *testing.T) {
	for _, a := range sineAngles() {
		if got, want := mustSine(t, -a), impl.SpanNeg(mustSine(t, a)); got != want {
			t.Errorf("SineOf(%d) is %v, want %v", -a, got, want)
		}
		if got, want := mustHalf(t, -a), impl.SpanNeg(mustHalf(t, a)); got != want {
			t.Errorf("HalfOf(%d) is %v, want %v", -a, got, want)
		}
	}
}

func TestPromise44HalfATurn(t *testing.T) {
	for _, a := range sineAngles() {
		s := mustSine(t, a)
		if lacks := half - a; lacks <= angMax {
			if got := mustSine(t, lacks); got != s {
				t.Errorf("SineOf(%d) is %v, but %v of %d, what it lacks to half a turn", a, s, got, lacks)
			}
		}
		if more := a + half; more <= angMax {
			if got := mustSine(t, more); got != impl.SpanNeg(s) {
				t.Errorf("SineOf(%d) is %v, but %v half a turn further", a, s, got)
			}
		}
	}
}

func TestPromise45TwelfthsThatAreExact(t *testing.T) {
	exact := []impl.Span{point(0), point(unit / 2), {}, point(unit), {}, point(unit / 2), point(0), point(-unit / 2), {}, point(-unit), {}, point(-unit / 2)}
	for k := -36; k <= 92592; k++ {
		at := (k%12 + 12) % 12
		s := mustSine(t, k*twelfth)
		if at%6 == 2 || at%6 == 4 {
			if s.Low >= s.High || impl.SpanWithin(point(unit/2), s) || impl.SpanWithin(point(-unit/2), s) {
				t.Errorf("SineOf of %d twelfths is %v", k, s)
			}
		} else if s != exact[at] {
			t.Errorf("SineOf of %d twelfths is %v, want %v", k, s, exact[at])
		}
	}
}

func TestPromise45BesideATwelfthItIsNotExact(t *testing.T) {
	for k := -24; k <= 24; k++ {
		for _, aside := range []int{-2, -1, 1, 2} {
			a := k*twelfth + aside
			if s := mustSine(t, a); s.Low >= s.High {
				t.Errorf("SineOf(%d) is %v", a, s)
			}
			if s := mustHalf(t, 2*k*twelfth+aside); s.Low >= s.High {
				t.Errorf("HalfOf(%d) is %v", 2*k*twelfth+aside, s)
			}
		}
	}
}

func TestPromise46OneIsInBothSquares(t *testing.T) {
	for _, a := range sineAngles() {
		sine, cos := mustSine(t, a), mustCos(t, a)
		both := mustOp(t, "SpanAdd", impl.SpanAdd, mustMul(t, sine, sine), mustMul(t, cos, cos))
		if !impl.SpanHas(both, 1, 1) || both.High-both.Low > 300 {
			t.Errorf("of %d both squares together are %v", a, both)
		}
	}
}

func TestPromise47AGreaterAngleHasNoLesserSine(t *testing.T) {
	var angles []int
	for _, a := range append(sineAngles(), quart, -quart, quart-1, 1-quart) {
		if a >= -quart && a <= quart {
			angles = append(angles, a)
		}
	}
	slices.Sort(angles)
	more := 0
	for i, a := range angles {
		for _, b := range angles[i:] {
			lesser, greater := mustSine(t, a), mustSine(t, b)
			if impl.SureLess(greater, lesser) == impl.SureYes {
				t.Errorf("SineOf(%d) is %v, SineOf(%d) %v", a, lesser, b, greater)
			}
			if impl.SureLess(lesser, greater) == impl.SureYes {
				more++
			}
		}
	}
	if all := len(angles) * len(angles) / 2; more < all*9/10 {
		t.Errorf("of %d pairs only %d have surely a greater sine", all, more)
	}
}

func TestPromise47OneStepFurther(t *testing.T) {
	for _, from := range []int{-quart, -3 * eighth / 2, -eighth - 500, -twelfth - 500, -500, twelfth - 500, eighth - 500, 3 * eighth / 2, 32016000, 32143000, quart - 1000} {
		for a := from; a < from+1000; a++ {
			if lesser, greater := mustSine(t, a), mustSine(t, a+1); greater.High < lesser.Low {
				t.Errorf("SineOf(%d) is %v, SineOf(%d) %v", a, lesser, a+1, greater)
			}
		}
	}
}

// eachSum is asked of two angles, with their sum.
func eachSum(t *testing.T, do func(a int, b int)) {
	t.Helper()
	held := 0
	for _, a := range someAngles() {
		for _, b := range someAngles() {
			if sum := a + b; sum >= -angMax && sum <= angMax {
				held++
				do(a, b)
			}
		}
	}
	if held < 10000 {
		t.Errorf("only %d sums were held", held)
	}
}

func TestPromise48TheSineOfASum(t *testing.T) {
	eachSum(t, func(a int, b int) {
		first, second := mustMul(t, mustSine(t, a), mustCos(t, b)), mustMul(t, mustCos(t, a), mustSine(t, b))
		made := mustOp(t, "SpanAdd", impl.SpanAdd, first, second)
		if s := mustSine(t, a+b); !meets(s, made) {
			t.Errorf("SineOf(%d) is %v, but of %d and %d %v is made", a+b, s, a, b, made)
		}
	})
}

func TestPromise49CosIsSineAQuarterFurther(t *testing.T) {
	for _, a := range sineAngles() {
		further := a + quart
		if further > angMax {
			further -= turn
		}
		cos := mustCos(t, a)
		if sine := mustSine(t, further); cos != sine {
			t.Errorf("CosOf(%d) is %v, SineOf(%d) %v", a, cos, further, sine)
		}
		if about := mustCos(t, -a); cos != about {
			t.Errorf("CosOf(%d) is %v, turned about %v", a, cos, about)
		}
	}
}

func TestPromise50TheCosineOfASum(t *testing.T) {
	eachSum(t, func(a int, b int) {
		first, second := mustMul(t, mustCos(t, a), mustCos(t, b)), mustMul(t, mustSine(t, a), mustSine(t, b))
		made := mustOp(t, "SpanSub", impl.SpanSub, first, second)
		if s := mustCos(t, a+b); !meets(s, made) {
			t.Errorf("CosOf(%d) is %v, but of %d and %d %v is made", a+b, s, a, b, made)
		}
	})
}

func TestPromise51TheSquareOfHalf(t *testing.T) {
	for _, a := range sineAngles() {
		for _, odd := range []int{a, min(a+1, angMax)} {
			s := mustHalf(t, odd)
			square := mustMul(t, s, s)
			// Halved ahead of taking it away, as one less a cosine may be beyond SpanMax.
			made := mustOp(t, "SpanSub", impl.SpanSub, point(unit/2), mustMul(t, point(unit/2), mustCos(t, odd)))
			if !meets(square, made) {
				t.Errorf("the square of HalfOf(%d) is %v, half of one less CosOf %v", odd, square, made)
			}
		}
	}
}

func TestPromise51HalfOfTwiceTheAngle(t *testing.T) {
	for _, a := range append(sineAngles(), angMax/2, -angMax/2) {
		if twice := 2 * a; twice >= -angMax && twice <= angMax {
			if got, want := mustHalf(t, twice), mustSine(t, a); got != want {
				t.Errorf("HalfOf(%d) is %v, SineOf(%d) %v", twice, got, a, want)
			}
		}
	}
}

func TestPromise52TanTimesCosIsSine(t *testing.T) {
	has, hasNot := 0, 0
	for _, a := range sineAngles() {
		tan, ok := impl.TanOf(a)
		about, too := impl.TanOf(-a)
		if ok != too || about != impl.SpanNeg(tan) {
			t.Errorf("TanOf(%d) is %v, %v, turned about %v, %v", a, tan, ok, about, too)
		}
		if !ok {
			hasNot++
			continue
		}
		has++
		if made := mustMul(t, tan, mustCos(t, a)); !impl.SpanOk(tan) || !meets(made, mustSine(t, a)) {
			t.Errorf("TanOf(%d) is %v, times CosOf %v", a, tan, made)
		}
	}
	if has < 500 || hasNot < 500 {
		t.Errorf("only %d have a tangent, %d have none", has, hasNot)
	}
}

func TestTanByHand(t *testing.T) {
	for _, c := range []struct {
		a    int
		want impl.Span
	}{
		{0, point(0)}, {1, span(47, 51)}, {2, span(95, 99)}, {100, span(4847, 4851)}, {360000, span(17455062, 17455067)},
		{4545678, span(224019175, 224019184)}, {10799999, span(577350197, 577350212)}, {10800000, span(577350266, 577350272)},
		{10800001, span(577350327, 577350342)}, {12345678, span(681988796, 681988814)}, {16199999, span(999999889, 999999916)},
		{16200000, span(999999988, 1000000012)}, {16200001, span(1000000084, 1000000111)},
	} {
		for _, same := range []int{c.a, c.a + half, c.a - half, c.a + turn} {
			if got, ok := impl.TanOf(same); !ok || got != c.want {
				t.Errorf("TanOf(%d) is %v, %v, want %v", same, got, ok, c.want)
			}
			if got, ok := impl.TanOf(-same); !ok || got != impl.SpanNeg(c.want) {
				t.Errorf("TanOf(%d) is %v, %v, want it turned about", -same, got, ok)
			}
		}
	}
}

func TestTanBeyondSpanMax(t *testing.T) {
	// The last one that is told: the upper end of the next one is above SpanMax.
	const last = 16926054
	for _, about := range []int{0, half, -half, turn, -3 * half, 15430 * half} {
		for apart := range 100 {
			for _, a := range []int{about + last - apart, about - last + apart} {
				if s, ok := impl.TanOf(a); !ok || !impl.SpanOk(s) {
					t.Errorf("TanOf(%d) is %v, %v", a, s, ok)
				}
			}
			for _, a := range []int{about + last + 1 + apart, about - last - 1 - apart} {
				if s, ok := impl.TanOf(a); ok || s != (impl.Span{}) {
					t.Errorf("TanOf(%d) is %v, %v", a, s, ok)
				}
			}
		}
	}
}

func TestTanOfAQuarterThereIsNone(t *testing.T) {
	for _, at := range []int{quart, 3 * quart, -quart, -3 * quart, 5 * quart, 7 * quart, turn*7000 + quart, -turn*7000 - 3*quart} {
		for aside := -3; aside <= 3; aside++ {
			if s, ok := impl.TanOf(at + aside); ok || s != (impl.Span{}) {
				t.Errorf("TanOf(%d) is %v, %v", at+aside, s, ok)
			}
		}
	}
}

func TestPromise53TanHalfATurnFurther(t *testing.T) {
	for _, a := range sineAngles() {
		tan, ok := impl.TanOf(a)
		for _, further := range []int{a + half, a - half, a + 3*half, a - 15430*half} {
			if further < -angMax || further > angMax {
				continue
			}
			if got, too := impl.TanOf(further); got != tan || too != ok {
				t.Errorf("TanOf(%d) is %v, %v, TanOf(%d) %v, %v", a, tan, ok, further, got, too)
			}
		}
	}
}

func TestArcByHand(t *testing.T) {
	for _, c := range []struct {
		a    int
		want impl.Span
	}{
		{0, point(0)}, {1, span(48, 49)}, {2, span(96, 97)}, {3, span(145, 146)}, {100, span(4848, 4849)}, {1000, span(48481, 48482)},
		{360000, span(17453292, 17453293)}, {3240000, span(157079632, 157079633)}, {4545678, span(220380688, 220380689)},
		{8100000, span(392699081, 392699082)}, {10799999, span(523598726, 523598728)}, {10800000, span(523598775, 523598776)},
		{10800001, span(523598823, 523598825)}, {12345678, span(598535359, 598535361)},
		{16199999, span(785398114, 785398116)}, {16200000, span(785398163, 785398164)},
	} {
		if got, ok := impl.ArcOf(c.a); !ok || got != c.want {
			t.Errorf("ArcOf(%d) is %v, %v, want %v", c.a, got, ok, c.want)
		}
		if got, ok := impl.ArcOf(-c.a); !ok || got != impl.SpanNeg(c.want) {
			t.Errorf("ArcOf(%d) is %v, %v, want %v turned about", -c.a, got, ok, c.want)
		}
	}
}

func TestPromise54AnArcIsBetweenItsSineAndItsTangent(t *testing.T) {
	for _, a := range arcAngles() {
		arc, sine := mustArc(t, a), mustSine(t, a)
		tan, ok := impl.TanOf(a)
		if !ok {
			t.Fatalf("TanOf(%d) is false", a)
		}
		if about := mustArc(t, -a); about != impl.SpanNeg(arc) {
			t.Errorf("ArcOf(%d) is %v, turned about %v", a, arc, about)
		}
		if !impl.SpanOk(arc) || arc.High-arc.Low > 2 || (a != 0) != (arc.Low < arc.High) {
			t.Errorf("ArcOf(%d) is %v", a, arc)
		}
		// Below 0 it is the other way.
		if a < 0 {
			arc, sine, tan = impl.SpanNeg(arc), impl.SpanNeg(sine), impl.SpanNeg(tan)
		}
		if impl.SureLess(arc, sine) == impl.SureYes || impl.SureLess(tan, arc) == impl.SureYes {
			t.Errorf("without sign ArcOf(%d) is %v, SineOf %v, TanOf %v", a, arc, sine, tan)
		}
	}
}

func TestPromise55TwoArcsTogether(t *testing.T) {
	held := 0
	for _, a := range arcAngles() {
		for _, b := range arcAngles() {
			if sum := a + b; sum < -eighth || sum > eighth {
				continue
			}
			held++
			both := mustOp(t, "SpanAdd", impl.SpanAdd, mustArc(t, a), mustArc(t, b))
			if s := mustArc(t, a+b); !meets(s, both) {
				t.Errorf("ArcOf(%d) is %v, those of %d and %d together %v", a+b, s, a, b, both)
			}
		}
	}
	if held < 10000 {
		t.Errorf("only %d sums were held", held)
	}
}

func TestSinesBeyondAngMax(t *testing.T) {
	all := sineFuncs()
	all["TanOf"], all["ArcOf"] = impl.TanOf, impl.ArcOf
	wrong := append(beyondAngMax(), angMax+quart, -angMax-quart, math.MaxInt/2, math.MinInt/2, math.MinInt/2-1, math.MaxInt/2+1, math.MaxInt-quart)
	for name, of := range all {
		for _, a := range wrong {
			if s, ok := of(a); ok || s != (impl.Span{}) {
				t.Errorf("%s(%d) is %v, %v", name, a, s, ok)
			}
		}
	}
}

func TestArcBeyondAnEighth(t *testing.T) {
	for _, a := range []int{eighth + 1, eighth + 2, twelfth * 2, quart - 1, quart, quart + 1, half, turn - 1, turn, turn + 1, 2 * turn, 7000 * turn, angMax - 1, angMax} {
		for _, wrong := range []int{a, -a} {
			if s, ok := impl.ArcOf(wrong); ok || s != (impl.Span{}) {
				t.Errorf("ArcOf(%d) is %v, %v", wrong, s, ok)
			}
		}
	}
}
