package tests

import (
	"math"
	"math/big"
	"slices"
	"testing"

	"loop.example/alidade/impl"
)

const (
	unit    = impl.SpanUnit
	spanMax = impl.SpanMax
)

// number is told as over divided by under.
type number struct{ over, under int }

func (n number) rat() *big.Rat {
	return big.NewRat(int64(n.over), int64(n.under))
}

func span(low int, high int) impl.Span {
	return impl.Span{Low: low, High: high}
}

func point(end int) impl.Span {
	return span(end, end)
}

// spansOf are all spans with two of these ends, spans of one number alone among them.
func spansOf(ends []int) []impl.Span {
	var out []impl.Span
	slices.Sort(ends)
	for i, low := range ends {
		for _, high := range ends[i:] {
			out = append(out, span(low, high))
		}
	}
	return out
}

func okSpans() []impl.Span {
	return spansOf([]int{
		-spanMax, 1 - spanMax, -unit - 1, -unit, 1 - unit, -577350269, -unit / 2, -333333333, -1000, -2, -1,
		0, 1, 2, 1000, 333333333, unit / 2, 577350269, unit - 1, unit, unit + 1, spanMax - 1, spanMax,
	})
}

func fewSpans() []impl.Span {
	return spansOf([]int{-spanMax, -unit, -333333333, -1, 0, 1, 333333333, unit, spanMax})
}

// noSpans have High below Low, or an end beyond SpanMax.
func noSpans() []impl.Span {
	return []impl.Span{
		span(1, 0), span(0, -1), span(unit, -unit), span(spanMax, -spanMax), span(spanMax, spanMax-1), span(1-spanMax, -spanMax),
		span(0, spanMax+1), span(-spanMax-1, 0), span(-spanMax, spanMax+1), span(-spanMax-1, spanMax), span(-spanMax-1, spanMax+1),
		point(spanMax + 1), point(-spanMax - 1), span(spanMax+1, 0), span(0, -spanMax-1),
		span(0, math.MaxInt), span(math.MinInt, 0), span(math.MinInt, math.MaxInt), span(math.MaxInt, math.MinInt),
		point(math.MaxInt), point(math.MinInt), span(math.MaxInt, 0), span(0, math.MinInt), span(math.MinInt+1, math.MinInt),
	}
}

func numbers() []number {
	var out []number
	for _, under := range []int{1, 2, 3, 7, 1000, 1001, 333333333, 931966449, 931966450, unit - 1, unit} {
		for _, over := range []int{0, 1, 2, 3, 5, 1000, 1073, 1074, 333333333, unit / 2, 577350269, unit - 1, unit} {
			out = append(out, number{over, under})
			if over != 0 {
				out = append(out, number{-over, under})
			}
		}
	}
	return out
}

// beyondNumbers are told by an over, or an under, that is out of its limits.
func beyondNumbers() []number {
	var out []number
	for _, over := range []int{unit + 1, -unit - 1, math.MaxInt, math.MinInt, math.MinInt + 1} {
		for _, under := range []int{1, 2, unit, 0, -1, unit + 1, math.MinInt} {
			out = append(out, number{over, under})
		}
	}
	for _, under := range []int{0, -1, -2, -unit, unit + 1, math.MaxInt, math.MinInt} {
		for _, over := range []int{0, 1, -1, unit, -unit} {
			out = append(out, number{over, under})
		}
	}
	return out
}

// holds says exactly whether a number is in an ok span.
func holds(s impl.Span, n *big.Rat) bool {
	return big.NewRat(int64(s.Low), unit).Cmp(n) <= 0 && n.Cmp(big.NewRat(int64(s.High), unit)) <= 0
}

// inside are some numbers of a span: both ends, and some between.
func inside(s impl.Span) []*big.Rat {
	out := []*big.Rat{big.NewRat(int64(s.Low), unit), big.NewRat(int64(s.High), unit), big.NewRat(int64(s.Low+s.High), 2*unit)}
	for _, n := range []number{{0, 1}, {1, 3}, {-1, 7}, {999, 1000}} {
		if holds(s, n.rat()) {
			out = append(out, n.rat())
		}
	}
	return out
}

func eachPair(spans []impl.Span, do func(s impl.Span, u impl.Span)) {
	for _, s := range spans {
		for _, u := range spans {
			do(s, u)
		}
	}
}

type spanOp func(s impl.Span, u impl.Span) (impl.Span, bool)

// told holds the answer of a function against the exact one: that, if it is ok, else nothing and false.
func told(t *testing.T, name string, s impl.Span, u impl.Span, got impl.Span, ok bool, want impl.Span) {
	t.Helper()
	fits := want.Low >= -spanMax && want.Low <= want.High && want.High <= spanMax
	if !fits {
		want = impl.Span{}
	}
	if ok != fits || got != want {
		t.Errorf("%s of %v and %v is %v, %v, want %v, %v", name, s, u, got, ok, want, fits)
	}
}

// floor is the greatest whole number that is not more; Div of math/big leaves what is not below 0.
func floor(n *big.Rat) int {
	return int(new(big.Int).Div(n.Num(), n.Denom()).Int64())
}

func ceil(n *big.Rat) int {
	return -floor(new(big.Rat).Neg(n))
}

// around is the least span in parts with all these numbers, told in parts, in it.
func around(parts ...*big.Rat) impl.Span {
	out := span(floor(parts[0]), ceil(parts[0]))
	for _, p := range parts {
		out = span(min(out.Low, floor(p)), max(out.High, ceil(p)))
	}
	return out
}

func whole(n int) *big.Rat {
	return new(big.Rat).SetInt64(int64(n))
}

func ends(s impl.Span) [2]int {
	return [2]int{s.Low, s.High}
}

// madeOfBoth goes through numbers of both spans where the function tells something, and asks whether what is made of them is in the answer.
func madeOfBoth(t *testing.T, name string, op spanOp, made func(x *big.Rat, y *big.Rat) *big.Rat) {
	t.Helper()
	tried := 0
	eachPair(okSpans(), func(s impl.Span, u impl.Span) {
		got, ok := op(s, u)
		if !ok {
			return
		}
		tried++
		for _, x := range inside(s) {
			for _, y := range inside(u) {
				if n := made(x, y); !holds(got, n) {
					t.Errorf("%s of %v and %v is %v, without %v, made of %v and %v", name, s, u, got, n, x, y)
				}
			}
		}
	})
	if tried < 1000 {
		t.Errorf("only %d answers of %s were held", tried, name)
	}
}

func TestSpanConstants(t *testing.T) {
	if unit != 1000000000 || spanMax != 1073000000 {
		t.Error(unit, spanMax)
	}
}

func TestSpanOk(t *testing.T) {
	for _, s := range okSpans() {
		if !impl.SpanOk(s) {
			t.Errorf("%v is not ok", s)
		}
	}
	for _, s := range noSpans() {
		if impl.SpanOk(s) {
			t.Errorf("%v is ok", s)
		}
	}
}

func TestSpanOfByHand(t *testing.T) {
	for _, c := range []struct {
		n    number
		want impl.Span
		ok   bool
	}{
		{number{0, 1}, span(0, 0), true},
		{number{0, unit}, span(0, 0), true},
		{number{1, unit}, span(1, 1), true},
		{number{-1, unit}, span(-1, -1), true},
		{number{1, 1}, span(unit, unit), true},
		{number{-unit, unit}, span(-unit, -unit), true},
		{number{2, 3}, span(666666666, 666666667), true},
		{number{-2, 3}, span(-666666667, -666666666), true},
		{number{1, unit - 1}, span(1, 2), true},
		{number{-1, unit - 1}, span(-2, -1), true},
		{number{1073, 1000}, span(spanMax, spanMax), true},
		{number{-1073, 1000}, span(-spanMax, -spanMax), true},
		{number{unit, 931966450}, span(spanMax-1, spanMax), true},
		{number{-unit, 931966450}, span(-spanMax, 1-spanMax), true},
		{number{unit, 931966449}, span(0, 0), false},
		{number{-unit, 931966449}, span(0, 0), false},
		{number{1074, 1000}, span(0, 0), false},
		{number{unit, 1}, span(0, 0), false},
		{number{-unit, 1}, span(0, 0), false},
	} {
		if got, ok := impl.SpanOf(c.n.over, c.n.under); got != c.want || ok != c.ok {
			t.Errorf("SpanOf of %v is %v, %v, want %v, %v", c.n, got, ok, c.want, c.ok)
		}
	}
}

func TestSpanHasByHand(t *testing.T) {
	for _, c := range []struct {
		s    impl.Span
		n    number
		want bool
	}{
		{span(333333333, 333333334), number{1, 3}, true},
		{span(333333333, 333333333), number{1, 3}, false},
		{span(333333334, 333333334), number{1, 3}, false},
		{span(333333334, unit), number{1, 3}, false},
		{span(-unit, 333333333), number{1, 3}, false},
		{span(-333333334, -333333333), number{-1, 3}, true},
		{span(-333333333, 0), number{-1, 3}, false},
		{span(0, 0), number{0, unit}, true},
		{span(1, spanMax), number{0, 1}, false},
		{span(0, spanMax), number{1, unit}, true},
		{span(0, spanMax), number{-1, unit}, false},
		{span(-spanMax, spanMax), number{1073, 1000}, true},
		{span(-spanMax, spanMax), number{unit, 931966449}, false},
		{span(-spanMax, spanMax), number{-unit, 931966449}, false},
		{span(-spanMax, spanMax), number{unit, 1}, false},
		{span(unit, unit), number{unit, unit}, true},
		{span(unit, unit), number{unit - 1, unit}, false},
		{span(unit, unit), number{unit, unit - 1}, false},
	} {
		if got := impl.SpanHas(c.s, c.n.over, c.n.under); got != c.want {
			t.Errorf("SpanHas of %v and %v is %v", c.s, c.n, got)
		}
	}
}

func TestPromise10NumberIsInSpanOf(t *testing.T) {
	for _, n := range numbers() {
		s, ok := impl.SpanOf(n.over, n.under)
		parts := new(big.Rat).Mul(n.rat(), whole(unit))
		told(t, "SpanOf", impl.Span{}, impl.Span{}, s, ok, around(parts))
		if !ok {
			continue
		}
		if !impl.SpanHas(s, n.over, n.under) {
			t.Errorf("%v is not in its span %v", n, s)
		}
		if wide := s.High - s.Low; wide < 0 || wide > 1 || (wide == 0) != parts.IsInt() {
			t.Errorf("SpanOf of %v is %v, %d wide", n, s, wide)
		}
	}
}

func TestPromise11NumberIsInWhatItsSpanIsIn(t *testing.T) {
	for _, n := range numbers() {
		of, ok := impl.SpanOf(n.over, n.under)
		for _, s := range okSpans() {
			has := impl.SpanHas(s, n.over, n.under)
			if has != (ok && impl.SpanWithin(of, s)) || has != holds(s, n.rat()) {
				t.Errorf("SpanHas of %v and %v is %v", s, n, has)
			}
		}
	}
}

func TestPromise12WithinGoesOn(t *testing.T) {
	eachPair(okSpans(), func(s impl.Span, u impl.Span) {
		in := impl.SpanWithin(s, u)
		if in != (u.Low <= s.Low && s.High <= u.High) {
			t.Errorf("SpanWithin of %v and %v is %v", s, u, in)
		}
		if in && impl.SpanWithin(u, s) && s != u {
			t.Errorf("%v and %v are within each other", s, u)
		}
		if s == u && !in {
			t.Errorf("%v is not within itself", s)
		}
	})
	few := fewSpans()
	eachPair(few, func(s impl.Span, u impl.Span) {
		for _, v := range few {
			if impl.SpanWithin(s, u) && impl.SpanWithin(u, v) && !impl.SpanWithin(s, v) {
				t.Errorf("%v is within %v, that within %v", s, u, v)
			}
		}
	})
}

func TestPromise13HullHasBothInIt(t *testing.T) {
	few := fewSpans()
	eachPair(okSpans(), func(s impl.Span, u impl.Span) {
		hull := impl.SpanHull(s, u)
		if hull != impl.SpanHull(u, s) || !impl.SpanWithin(s, hull) || !impl.SpanWithin(u, hull) {
			t.Errorf("SpanHull of %v and %v is %v", s, u, hull)
		}
		if hull != span(min(s.Low, u.Low), max(s.High, u.High)) {
			t.Errorf("SpanHull of %v and %v is %v", s, u, hull)
		}
	})
	eachPair(few, func(s impl.Span, u impl.Span) {
		hull := impl.SpanHull(s, u)
		for _, v := range few {
			if impl.SpanWithin(s, v) && impl.SpanWithin(u, v) && !impl.SpanWithin(hull, v) {
				t.Errorf("SpanHull of %v and %v is not in %v", s, u, v)
			}
		}
	})
}

func TestPromise14MeetIsWhatIsInBoth(t *testing.T) {
	eachPair(okSpans(), func(s impl.Span, u impl.Span) {
		meet, ok := impl.SpanMeet(s, u)
		told(t, "SpanMeet", s, u, meet, ok, span(max(s.Low, u.Low), min(s.High, u.High)))
	})
	eachPair(fewSpans(), func(s impl.Span, u impl.Span) {
		meet, ok := impl.SpanMeet(s, u)
		for _, n := range numbers() {
			both := impl.SpanHas(s, n.over, n.under) && impl.SpanHas(u, n.over, n.under)
			if both != (ok && impl.SpanHas(meet, n.over, n.under)) {
				t.Errorf("SpanMeet of %v and %v is %v, %v; %v is in both: %v", s, u, meet, ok, n, both)
			}
		}
	})
}

func TestPromise15TurnedAboutTwice(t *testing.T) {
	for _, s := range okSpans() {
		neg := impl.SpanNeg(s)
		if neg != span(-s.High, -s.Low) || impl.SpanNeg(neg) != s {
			t.Errorf("SpanNeg of %v is %v, of that %v", s, neg, impl.SpanNeg(neg))
		}
		for _, n := range numbers() {
			if impl.SpanHas(s, n.over, n.under) != impl.SpanHas(neg, -n.over, n.under) {
				t.Errorf("%v in %v, the contrary in %v", n, s, neg)
			}
		}
	}
}

func TestPromise16SumIsInSpanAdd(t *testing.T) {
	madeOfBoth(t, "SpanAdd", impl.SpanAdd, func(x *big.Rat, y *big.Rat) *big.Rat { return new(big.Rat).Add(x, y) })
	eachPair(okSpans(), func(s impl.Span, u impl.Span) {
		sum, ok := impl.SpanAdd(s, u)
		told(t, "SpanAdd", s, u, sum, ok, span(s.Low+u.Low, s.High+u.High))
		if ok && sum.High-sum.Low != s.High-s.Low+u.High-u.Low {
			t.Errorf("SpanAdd of %v and %v is %v", s, u, sum)
		}
	})
}

func TestPromise17DifferenceIsInSpanSub(t *testing.T) {
	madeOfBoth(t, "SpanSub", impl.SpanSub, func(x *big.Rat, y *big.Rat) *big.Rat { return new(big.Rat).Sub(x, y) })
	eachPair(okSpans(), func(s impl.Span, u impl.Span) {
		less, ok := impl.SpanSub(s, u)
		told(t, "SpanSub", s, u, less, ok, span(s.Low-u.High, s.High-u.Low))
		other, too := impl.SpanSub(u, s)
		if ok != too || ok && other != impl.SpanNeg(less) {
			t.Errorf("SpanSub of %v and %v is %v, %v, the other way %v, %v", s, u, less, ok, other, too)
		}
	})
}

func TestPromise18ProductIsInSpanMul(t *testing.T) {
	madeOfBoth(t, "SpanMul", impl.SpanMul, func(x *big.Rat, y *big.Rat) *big.Rat { return new(big.Rat).Mul(x, y) })
	eachPair(okSpans(), func(s impl.Span, u impl.Span) {
		var all []*big.Rat
		for _, a := range ends(s) {
			for _, b := range ends(u) {
				all = append(all, big.NewRat(int64(a)*int64(b), unit))
			}
		}
		got, ok := impl.SpanMul(s, u)
		told(t, "SpanMul", s, u, got, ok, around(all...))
		if other, too := impl.SpanMul(u, s); other != got || too != ok {
			t.Errorf("SpanMul of %v and %v is %v, %v, the other way %v, %v", s, u, got, ok, other, too)
		}
	})
}

func TestPromise19SpanMulTurnedAboutAndWithOne(t *testing.T) {
	eachPair(okSpans(), func(s impl.Span, u impl.Span) {
		got, ok := impl.SpanMul(s, u)
		for i, about := range [2][2]impl.Span{{impl.SpanNeg(s), u}, {s, impl.SpanNeg(u)}} {
			other, too := impl.SpanMul(about[0], about[1])
			if too != ok || ok && other != impl.SpanNeg(got) {
				t.Errorf("SpanMul of %v and %v is %v, %v, with %d turned about %v, %v", s, u, got, ok, i, other, too)
			}
		}
	})
	for _, s := range okSpans() {
		if got, ok := impl.SpanMul(s, point(unit)); !ok || got != s {
			t.Errorf("SpanMul of %v and one is %v, %v", s, got, ok)
		}
		if got, ok := impl.SpanMul(point(-unit), s); !ok || got != impl.SpanNeg(s) {
			t.Errorf("SpanMul of %v and one below 0 is %v, %v", s, got, ok)
		}
	}
}

func TestPromise20PartsHaveParts(t *testing.T) {
	few := fewSpans()
	eachPair(few, func(part impl.Span, s impl.Span) {
		if !impl.SpanWithin(part, s) {
			return
		}
		for _, u := range few {
			for i, op := range []spanOp{impl.SpanMul, impl.SpanAdd} {
				great, ok := op(s, u)
				small, too := op(part, u)
				if ok && (!too || !impl.SpanWithin(small, great)) {
					t.Errorf("function %d: of %v and %v %v, of the part %v %v, %v", i, s, u, great, part, small, too)
				}
			}
		}
	})
}

func TestPromise21QuotientIsInSpanDiv(t *testing.T) {
	zero := new(big.Rat)
	madeOfBoth(t, "SpanDiv", impl.SpanDiv, func(x *big.Rat, y *big.Rat) *big.Rat {
		if y.Cmp(zero) == 0 {
			t.Fatal("divided by 0")
		}
		return new(big.Rat).Quo(x, y)
	})
	eachPair(okSpans(), func(s impl.Span, u impl.Span) {
		if u.Low <= 0 && u.High >= 0 {
			return
		}
		var all []*big.Rat
		for _, a := range ends(s) {
			for _, b := range ends(u) {
				all = append(all, big.NewRat(int64(unit)*int64(a), int64(b)))
			}
		}
		got, ok := impl.SpanDiv(s, u)
		told(t, "SpanDiv", s, u, got, ok, around(all...))
	})
}

func TestPromise22NothingIsDividedByZero(t *testing.T) {
	eachPair(okSpans(), func(s impl.Span, u impl.Span) {
		got, ok := impl.SpanDiv(s, u)
		if impl.SpanHas(u, 0, 1) && (ok || got != impl.Span{}) {
			t.Errorf("SpanDiv of %v and %v is %v, %v", s, u, got, ok)
		}
		for i, about := range [2][2]impl.Span{{impl.SpanNeg(s), u}, {s, impl.SpanNeg(u)}} {
			other, too := impl.SpanDiv(about[0], about[1])
			if too != ok || ok && other != impl.SpanNeg(got) {
				t.Errorf("SpanDiv of %v and %v is %v, %v, with %d turned about %v, %v", s, u, got, ok, i, other, too)
			}
		}
	})
}

func TestPromise23SpanIsInSpanMulOfSpanDiv(t *testing.T) {
	tried := 0
	eachPair(okSpans(), func(s impl.Span, u impl.Span) {
		div, ok := impl.SpanDiv(s, u)
		if !ok {
			return
		}
		if back, ok := impl.SpanMul(div, u); ok {
			tried++
			if !impl.SpanWithin(s, back) {
				t.Errorf("%v divided by %v is %v, times that %v", s, u, div, back)
			}
		}
	})
	if tried < 1000 {
		t.Errorf("only %d spans were divided and multiplied", tried)
	}
}

// rootSpans are not below 0.
func rootSpans() []impl.Span {
	out := spansOf([]int{0, 1, 2, 3, 4, 10, 1000, 4000, 9000, 160000, 333333333, unit / 4, unit / 4 * 3, unit - 1, unit, unit + 1, spanMax - 1, spanMax})
	for end := 0; end <= 3000; end++ {
		out = append(out, point(end), point(spanMax-end), point(unit/2+end))
	}
	return out
}

func mustRoot(t *testing.T, s impl.Span) impl.Span {
	t.Helper()
	root, ok := impl.SpanRoot(s)
	if !ok || !impl.SpanOk(root) {
		t.Fatalf("SpanRoot of %v is %v, %v", s, root, ok)
	}
	return root
}

func TestPromise24SquaresAreAroundTheSpan(t *testing.T) {
	for _, s := range rootSpans() {
		root := mustRoot(t, s)
		low, high := unit*s.Low, unit*s.High
		if root.Low < 0 || root.Low*root.Low > low || root.High*root.High < high {
			t.Errorf("SpanRoot of %v is %v, too narrow", s, root)
		}
		if (root.Low+1)*(root.Low+1) <= low || root.High > 0 && (root.High-1)*(root.High-1) >= high {
			t.Errorf("SpanRoot of %v is %v, too wide", s, root)
		}
	}
}

func TestPromise25SpanIsInTheSquareOfItsRoot(t *testing.T) {
	for _, s := range rootSpans() {
		root := mustRoot(t, s)
		if square, ok := impl.SpanMul(root, root); ok && !impl.SpanWithin(s, square) {
			t.Errorf("SpanRoot of %v is %v, its square %v", s, root, square)
		} else if !ok && s.High < spanMax-1 {
			t.Errorf("SpanRoot of %v is %v, which has no square", s, root)
		}
	}
}

func TestPromise26RootOfANumberIsInSpanRoot(t *testing.T) {
	wide := spansOf([]int{0, 1, 2, 1000, 333333333, unit / 4, unit / 2, unit, unit + 1, spanMax})
	for _, s := range wide {
		root := mustRoot(t, s)
		for _, end := range []int{0, 1, 2, 1000, 333333333, unit / 4, unit / 2, unit, spanMax} {
			if impl.SpanWithin(point(end), s) && !impl.SpanWithin(mustRoot(t, point(end)), root) {
				t.Errorf("SpanRoot of %v is %v, without that of %d", s, root, end)
			}
		}
		for _, n := range []number{{0, 1}, {1, 2}, {1, 3}, {2, 3}, {999, 1000}, {1, 31622}, {31622, 31622}, {31, 30}, {29, 28}, {1035, 1000}, {1, 1}} {
			if impl.SpanHas(s, n.over*n.over, n.under*n.under) && !impl.SpanHas(root, n.over, n.under) {
				t.Errorf("SpanRoot of %v is %v, without %v", s, root, n)
			}
		}
	}
	for _, s := range rootSpans() {
		if root := mustRoot(t, s); s.Low == s.High && root.High-root.Low > 1 {
			t.Errorf("SpanRoot of %v is %v", s, root)
		}
	}
}

func TestPromise27SpanOfAGreaterNumber(t *testing.T) {
	all := numbers()
	slices.SortFunc(all, func(m number, n number) int { return m.rat().Cmp(n.rat()) })
	last := span(-spanMax, -spanMax)
	for _, n := range all {
		s, ok := impl.SpanOf(n.over, n.under)
		about, too := impl.SpanOf(-n.over, n.under)
		if ok != too || ok && about != impl.SpanNeg(s) {
			t.Errorf("SpanOf of %v is %v, %v, of the contrary %v, %v", n, s, ok, about, too)
		}
		if !ok {
			continue
		}
		if s.Low < last.Low || s.High < last.High {
			t.Errorf("SpanOf of %v is %v, that of a lesser number %v", n, s, last)
		}
		last = s
	}
}

func TestSpanMulAndDivByHand(t *testing.T) {
	for i, c := range []struct {
		op   spanOp
		s, u impl.Span
		want impl.Span
		ok   bool
	}{
		{impl.SpanMul, span(1, 1), span(1, 1), span(0, 1), true},
		{impl.SpanMul, span(-1, -1), span(1, 1), span(-1, 0), true},
		{impl.SpanMul, span(-1, 1), span(-1, 1), span(-1, 1), true},
		{impl.SpanMul, span(-2*unit/4, unit/4), span(-unit/4, unit), span(-unit/2, unit/4), true},
		{impl.SpanMul, span(-unit, -unit/2), span(-unit/2, -unit/4), span(unit/8, unit/2), true},
		{impl.SpanMul, span(0, 0), span(-spanMax, spanMax), span(0, 0), true},
		{impl.SpanMul, point(spanMax), point(unit), point(spanMax), true},
		{impl.SpanMul, point(-spanMax), point(unit), point(-spanMax), true},
		{impl.SpanMul, point(1072999999), point(1000000001), span(0, 0), false},
		{impl.SpanMul, point(-1072999999), point(1000000001), span(0, 0), false},
		{impl.SpanMul, point(spanMax), point(spanMax), span(0, 0), false},
		{impl.SpanMul, span(-spanMax, spanMax), span(-spanMax, spanMax), span(0, 0), false},
		{impl.SpanDiv, span(1, 2), span(3, 4), span(unit/4, 666666667), true},
		{impl.SpanDiv, span(1, 2), span(-4, -3), span(-666666667, -unit/4), true},
		{impl.SpanDiv, span(-2, 1), span(-4, -3), span(-333333334, 666666667), true},
		{impl.SpanDiv, span(0, 0), span(-1, -1), span(0, 0), true},
		{impl.SpanDiv, span(1, 1), span(-spanMax, -unit), span(-1, 0), true},
		{impl.SpanDiv, point(1073), point(1000), point(spanMax), true},
		{impl.SpanDiv, point(1073), point(-1000), point(-spanMax), true},
		{impl.SpanDiv, point(1072999999), point(999999999), span(0, 0), false},
		{impl.SpanDiv, point(-1072999999), point(999999999), span(0, 0), false},
		{impl.SpanDiv, point(1072999999), point(-999999999), span(0, 0), false},
		{impl.SpanDiv, point(spanMax), point(1), span(0, 0), false},
		{impl.SpanDiv, point(spanMax), point(-1), span(0, 0), false},
		{impl.SpanDiv, point(1), span(0, 1), span(0, 0), false},
		{impl.SpanDiv, point(1), span(-1, 0), span(0, 0), false},
		{impl.SpanDiv, point(0), point(0), span(0, 0), false},
		{impl.SpanDiv, point(0), span(-1, 1), span(0, 0), false},
		{impl.SpanAdd, span(-unit, unit), span(unit-spanMax, spanMax-unit), span(-spanMax, spanMax), true},
		{impl.SpanAdd, span(-unit, unit), span(unit-spanMax, spanMax-unit+1), span(0, 0), false},
		{impl.SpanAdd, span(-unit, unit), span(unit-spanMax-1, spanMax-unit), span(0, 0), false},
		{impl.SpanSub, span(-unit, unit), span(unit-spanMax, spanMax-unit), span(-spanMax, spanMax), true},
		{impl.SpanSub, span(-unit, unit), span(unit-spanMax, spanMax-unit+1), span(0, 0), false},
		{impl.SpanSub, span(-unit, unit), span(unit-spanMax-1, spanMax-unit), span(0, 0), false},
		{impl.SpanSub, span(1, 3), span(1, 3), span(-2, 2), true},
		{impl.SpanMeet, span(-1, 1), span(1, 3), span(1, 1), true},
		{impl.SpanMeet, span(-1, 1), span(2, 3), span(0, 0), false},
	} {
		if got, ok := c.op(c.s, c.u); got != c.want || ok != c.ok {
			t.Errorf("%d: of %v and %v %v, %v, want %v, %v", i, c.s, c.u, got, ok, c.want, c.ok)
		}
	}
}

func TestSpanRootByHand(t *testing.T) {
	for _, c := range []struct{ s, want impl.Span }{
		{span(0, 0), span(0, 0)},
		{span(0, 1), span(0, 31623)},
		{span(1, 1), span(31622, 31623)},
		{span(10, 1000), span(100000, 1000000)},
		{span(unit/4, unit), span(unit/2, unit)},
		{span(2, spanMax), span(44721, 1035857134)},
	} {
		if got := mustRoot(t, c.s); got != c.want {
			t.Errorf("SpanRoot of %v is %v, want %v", c.s, got, c.want)
		}
	}
}

func TestSpanRootOfWhatIsBelowZero(t *testing.T) {
	for _, s := range append(noSpans(), span(-1, -1), span(-1, 0), span(-1, 1), span(-spanMax, spanMax), point(-spanMax)) {
		if got, ok := impl.SpanRoot(s); ok || got != (impl.Span{}) {
			t.Errorf("SpanRoot of %v is %v, %v", s, got, ok)
		}
	}
}

func TestNumberThatIsNone(t *testing.T) {
	for _, n := range beyondNumbers() {
		if got, ok := impl.SpanOf(n.over, n.under); ok || got != (impl.Span{}) {
			t.Errorf("SpanOf of %v is %v, %v", n, got, ok)
		}
		for _, s := range []impl.Span{{}, span(-spanMax, spanMax), point(unit), span(0, 1)} {
			if impl.SpanHas(s, n.over, n.under) {
				t.Errorf("%v has %v", s, n)
			}
		}
	}
}

func TestSpansThatAreNone(t *testing.T) {
	others := append(noSpans(), span(0, 0), point(unit), point(-unit), span(1, 2), span(-2, -1), span(-spanMax, spanMax))
	for _, no := range noSpans() {
		if got := impl.SpanNeg(no); got != (impl.Span{}) {
			t.Errorf("SpanNeg of %v is %v", no, got)
		}
		for _, n := range []number{{0, 1}, {1, 1}, {-1, 1}, {1, 2}, {unit, unit}, {1073, 1000}} {
			if impl.SpanHas(no, n.over, n.under) {
				t.Errorf("%v has %v", no, n)
			}
		}
		for _, other := range others {
			noneOfBoth(t, no, other)
			noneOfBoth(t, other, no)
		}
	}
}

// noneOfBoth holds the answers of two spans, one of which is not ok, against the fixed ones.
func noneOfBoth(t *testing.T, s impl.Span, u impl.Span) {
	t.Helper()
	for i, op := range []spanOp{impl.SpanMeet, impl.SpanAdd, impl.SpanSub, impl.SpanMul, impl.SpanDiv} {
		if got, ok := op(s, u); ok || got != (impl.Span{}) {
			t.Errorf("function %d of %v and %v is %v, %v", i, s, u, got, ok)
		}
	}
	if got := impl.SpanHull(s, u); got != (impl.Span{}) {
		t.Errorf("SpanHull of %v and %v is %v", s, u, got)
	}
	if impl.SpanWithin(s, u) {
		t.Errorf("%v is within %v", s, u)
	}
}
