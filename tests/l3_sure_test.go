package tests

import (
	"math"
	"math/big"
	"testing"

	"loop.example/alidade/impl"
)

// sureParts are how many parts are rounded to one: both limits, odd and even ones, and what has few or many figures.
func sureParts() []int {
	return []int{1, 2, 3, 7, 10, 1000, 1001, 1000000, 333333333, unit / 2, unit/2 + 1, unit - 1, unit}
}

// narrowSpans have their ends at whole and half ones of these parts, or up to two parts to either side.
func narrowSpans(parts int) []impl.Span {
	var out []impl.Span
	for halves := -5; halves <= 5; halves++ {
		middle := halves * parts / 2
		for low := middle - 2; low <= middle+2; low++ {
			for high := low; high <= middle+2; high++ {
				if low >= -spanMax && high <= spanMax {
					out = append(out, span(low, high))
				}
			}
		}
	}
	return out
}

func eachRounding(do func(s impl.Span, parts int, way int)) {
	for _, parts := range sureParts() {
		for _, s := range append(narrowSpans(parts), okSpans()...) {
			for _, way := range roundWays() {
				do(s, parts, way)
			}
		}
	}
}

// exactly is a number rounded some way, by fractions alone.
func exactly(n *big.Rat, way int) int {
	switch way {
	case impl.RoundDown:
		return floor(n)
	case impl.RoundUp:
		return ceil(n)
	case impl.RoundZero:
		if n.Sign() < 0 {
			return ceil(n)
		}
		return floor(n)
	}
	down := floor(n)
	left := new(big.Rat).Sub(n, whole(down))
	if half := left.Cmp(big.NewRat(1, 2)); half > 0 || half == 0 && down%2 != 0 {
		return down + 1
	}
	return down
}

// withFractions are some numbers of a span, in parts: both ends, and some between that are not whole.
func withFractions(s impl.Span) []*big.Rat {
	wide := int64(s.High - s.Low)
	out := []*big.Rat{whole(s.Low), whole(s.High)}
	for _, share := range []*big.Rat{big.NewRat(1, 2), big.NewRat(1, 3), big.NewRat(6, 7), big.NewRat(1, 1000)} {
		between := new(big.Rat).Mul(share, new(big.Rat).SetInt64(wide))
		out = append(out, between.Add(between, whole(s.Low)))
	}
	return out
}

func TestSureConstants(t *testing.T) {
	if impl.SureYes != 1 || impl.SureNo != 2 || impl.SureNot != 3 {
		t.Error(impl.SureYes, impl.SureNo, impl.SureNot)
	}
}

// unsure stands for 0 and false, where a number is wanted.
const unsure = math.MinInt

func TestSureRoundByHand(t *testing.T) {
	for _, c := range []struct {
		s                    impl.Span
		parts                int
		down, up, zero, even int
	}{
		{span(0, 0), 1, 0, 0, 0, 0},
		{span(0, 0), unit, 0, 0, 0, 0},
		{span(0, 1), 1, unsure, unsure, unsure, unsure},
		{span(-1, 0), 1, unsure, unsure, unsure, unsure},
		{span(7, 7), 1, 7, 7, 7, 7},
		{span(-7, -7), 1, -7, -7, -7, -7},
		{span(0, 1), unit, 0, unsure, 0, 0},
		{span(-1, 0), unit, unsure, 0, 0, 0},
		{span(-1, 1), unit, unsure, unsure, 0, 0},
		{span(1, 9), 10, 0, 1, 0, unsure},
		{span(1, 10), 10, unsure, 1, unsure, unsure},
		{span(0, 9), 10, 0, unsure, 0, unsure},
		{span(-9, -1), 10, -1, 0, 0, unsure},
		{span(-10, -1), 10, -1, unsure, unsure, unsure},
		{span(-9, 9), 10, unsure, unsure, 0, unsure},
		{span(-5, 5), 10, unsure, unsure, 0, 0},
		{span(-6, 5), 10, unsure, unsure, 0, unsure},
		{span(-5, 6), 10, unsure, unsure, 0, unsure},
		{span(5, 5), 10, 0, 1, 0, 0},
		{span(6, 14), 10, unsure, unsure, unsure, 1},
		{span(5, 14), 10, unsure, unsure, unsure, unsure},
		{span(6, 15), 10, unsure, unsure, unsure, unsure},
		{span(15, 25), 10, unsure, unsure, unsure, 2},
		{span(14, 25), 10, unsure, unsure, unsure, unsure},
		{span(15, 26), 10, unsure, unsure, unsure, unsure},
		{span(-25, -15), 10, unsure, unsure, unsure, -2},
		{span(-26, -15), 10, unsure, unsure, unsure, unsure},
		{span(-25, -14), 10, unsure, unsure, unsure, unsure},
		{span(-15, -15), 10, -2, -1, -1, -2},
		{span(333333333, 333333334), 1000000, 333, 334, 333, 333},
		{span(333499999, 333500001), 1000000, 333, 334, 333, unsure},
		{span(332500000, 333500000), 1000000, unsure, unsure, unsure, unsure},
		{span(333500000, 334500000), 1000000, unsure, unsure, unsure, 334},
		{span(spanMax, spanMax), 1, spanMax, spanMax, spanMax, spanMax},
		{span(-spanMax, -spanMax), 1, -spanMax, -spanMax, -spanMax, -spanMax},
		{span(unit, spanMax), unit, 1, unsure, 1, 1},
		{span(-spanMax, -unit), unit, unsure, -1, -1, -1},
		{span(unit/2, spanMax), unit, unsure, unsure, unsure, unsure},
		{span(unit/2+1, spanMax), unit, unsure, unsure, unsure, 1},
		{span(-spanMax, -unit/2-1), unit, unsure, unsure, unsure, -1},
		{span(-spanMax, -unit/2), unit, unsure, unsure, unsure, unsure},
		{span(-unit/2, unit/2), unit, unsure, unsure, 0, 0},
		{span(1-unit, unit-1), unit, unsure, unsure, 0, unsure},
		{span(-spanMax, spanMax), unit, unsure, unsure, unsure, unsure},
		{span(-spanMax, spanMax), 1, unsure, unsure, unsure, unsure},
	} {
		for i, want := range []int{c.down, c.up, c.zero, c.even} {
			sure := want != unsure
			if !sure {
				want = 0
			}
			if n, ok := impl.SureRound(c.s, c.parts, roundWays()[i]); n != want || ok != sure {
				t.Errorf("SureRound(%v, %d, %d) is %d, %v, want %d, %v", c.s, c.parts, roundWays()[i], n, ok, want, sure)
			}
		}
	}
}

func TestPromise28EachNumberIsRoundedToWhatIsTold(t *testing.T) {
	toldOf := map[int]int{}
	eachRounding(func(s impl.Span, parts int, way int) {
		n, ok := impl.SureRound(s, parts, way)
		if !ok {
			return
		}
		if s.Low < s.High {
			toldOf[way]++
		}
		for _, x := range withFractions(s) {
			if want := exactly(new(big.Rat).Quo(x, whole(parts)), way); n != want {
				t.Errorf("SureRound(%v, %d, %d) is %d, but %v is rounded to %d", s, parts, way, n, x, want)
			}
		}
	})
	for _, way := range roundWays() {
		if toldOf[way] < 1000 {
			t.Errorf("only %d spans with more than one number were told, rounded by %d", toldOf[way], way)
		}
	}
}

func TestPromise28EachWholeNumberBetweenToo(t *testing.T) {
	for parts := 1; parts <= 12; parts++ {
		for low := -30; low <= 30; low++ {
			for high := low; high <= 30; high++ {
				for _, way := range roundWays() {
					n, ok := impl.SureRound(span(low, high), parts, way)
					for end := low; ok && end <= high; end++ {
						if want := mustRound(t, end, parts, way); n != want {
							t.Errorf("SureRound(%d to %d, %d, %d) is %d, but %d is rounded to %d", low, high, parts, way, n, end, want)
						}
					}
				}
			}
		}
	}
}

func TestPromise29WhatIsNotToldCouldBeTwo(t *testing.T) {
	notToldOf := map[int]int{}
	eachRounding(func(s impl.Span, parts int, way int) {
		n, ok := impl.SureRound(s, parts, way)
		if ok {
			return
		}
		notToldOf[way]++
		low, high := exactly(big.NewRat(int64(s.Low), int64(parts)), way), exactly(big.NewRat(int64(s.High), int64(parts)), way)
		if n != 0 || low == high {
			t.Errorf("SureRound(%v, %d, %d) is %d and false, its ends are rounded to %d and %d", s, parts, way, n, low, high)
		}
	})
	for _, way := range roundWays() {
		if notToldOf[way] < 1000 {
			t.Errorf("only %d spans were not told, rounded by %d", notToldOf[way], way)
		}
	}
}

func TestPromise29OneNumberAloneIsTold(t *testing.T) {
	for _, parts := range sureParts() {
		for _, end := range []int{-spanMax, -unit, -unit / 2, -7, -1, 0, 1, 7, unit / 2, unit, spanMax} {
			for _, way := range roundWays() {
				if n, ok := impl.SureRound(point(end), parts, way); !ok || n != mustRound(t, end, parts, way) {
					t.Errorf("SureRound(%d alone, %d, %d) is %d, %v", end, parts, way, n, ok)
				}
			}
		}
	}
}

func TestSureLessByHand(t *testing.T) {
	for _, c := range []struct {
		s, u impl.Span
		want int
	}{
		{span(1, 2), span(3, 4), impl.SureYes},
		{span(3, 4), span(1, 2), impl.SureNo},
		{span(1, 3), span(3, 4), impl.SureNot},
		{span(1, 3), span(2, 4), impl.SureNot},
		{span(3, 4), span(1, 3), impl.SureNo},
		{span(3, 4), span(1, 4), impl.SureNot},
		{span(1, 4), span(2, 3), impl.SureNot},
		{span(2, 3), span(1, 4), impl.SureNot},
		{span(1, 2), span(1, 2), impl.SureNot},
		{point(2), point(2), impl.SureNo},
		{point(1), point(2), impl.SureYes},
		{point(2), point(1), impl.SureNo},
		{point(2), span(2, 3), impl.SureNot},
		{point(2), span(1, 2), impl.SureNo},
		{span(1, 2), point(2), impl.SureNot},
		{span(2, 3), point(2), impl.SureNo},
		{point(0), point(0), impl.SureNo},
		{point(0), span(0, 1), impl.SureNot},
		{span(-1, 0), point(0), impl.SureNot},
		{span(-1, 1), point(0), impl.SureNot},
		{point(-1), point(0), impl.SureYes},
		{span(-2, -1), span(0, 1), impl.SureYes},
		{span(-3, -2), span(-1, 0), impl.SureYes},
		{point(-spanMax), point(spanMax), impl.SureYes},
		{point(spanMax), point(-spanMax), impl.SureNo},
		{point(spanMax), point(spanMax), impl.SureNo},
		{point(-spanMax), point(-spanMax), impl.SureNo},
		{span(-spanMax, spanMax), span(-spanMax, spanMax), impl.SureNot},
		{point(-spanMax), span(-spanMax, spanMax), impl.SureNot},
		{point(spanMax), span(-spanMax, spanMax), impl.SureNo},
		{span(-spanMax, spanMax), point(-spanMax), impl.SureNo},
		{span(-spanMax, spanMax), point(spanMax), impl.SureNot},
		{span(-spanMax, spanMax-1), point(spanMax), impl.SureYes},
	} {
		if got := impl.SureLess(c.s, c.u); got != c.want {
			t.Errorf("SureLess(%v, %v) is %d, want %d", c.s, c.u, got, c.want)
		}
	}
}

// lessOfBoth says whether some end of the first is less than some end of the other, and whether some is not.
func lessOfBoth(s impl.Span, u impl.Span) (bool, bool) {
	some, someNot := false, false
	for _, x := range ends(s) {
		for _, y := range ends(u) {
			if x < y {
				some = true
			} else {
				someNot = true
			}
		}
	}
	return some, someNot
}

// lessHolds holds a verdict against what the ends say, and against the verdict the other way.
func lessHolds(t *testing.T, s impl.Span, u impl.Span) int {
	t.Helper()
	got, other := impl.SureLess(s, u), impl.SureLess(u, s)
	some, someNot := lessOfBoth(s, u)
	want := impl.SureNot
	if !someNot {
		want = impl.SureYes
	} else if !some {
		want = impl.SureNo
	}
	if got != want {
		t.Errorf("SureLess(%v, %v) is %d, want %d", s, u, got, want)
	}
	if got == impl.SureYes && other != impl.SureNo {
		t.Errorf("SureLess(%v, %v) is %d, the other way %d", s, u, got, other)
	}
	return got
}

func TestPromise30SurelyLess(t *testing.T) {
	verdicts := map[int]int{}
	eachPair(okSpans(), func(s impl.Span, u impl.Span) {
		verdicts[lessHolds(t, s, u)]++
	})
	for _, verdict := range []int{impl.SureYes, impl.SureNo, impl.SureNot} {
		if verdicts[verdict] < 1000 {
			t.Errorf("only %d pairs have the verdict %d", verdicts[verdict], verdict)
		}
	}
}

func TestPromise30EachNumberIsLess(t *testing.T) {
	eachPair(fewSpans(), func(s impl.Span, u impl.Span) {
		got := impl.SureLess(s, u)
		for _, x := range withFractions(s) {
			for _, y := range withFractions(u) {
				less := x.Cmp(y) < 0
				if got == impl.SureYes && !less || got == impl.SureNo && less {
					t.Errorf("SureLess(%v, %v) is %d, with %v and %v", s, u, got, x, y)
				}
			}
		}
	})
}

func TestPromise30EndsThatTouch(t *testing.T) {
	for _, end := range []int{-spanMax, 1 - spanMax, 2 - spanMax, -unit, -1, 0, 1, unit, spanMax - 2, spanMax - 1, spanMax} {
		for _, apart := range []int{-1, 0, 1} {
			for _, below := range []int{0, 1, 1000, spanMax} {
				for _, above := range []int{0, 1, 1000, spanMax} {
					lower, upper := span(max(end-below, -spanMax), end), span(end+apart, min(end+apart+above, spanMax))
					if impl.SpanOk(lower) && impl.SpanOk(upper) {
						lessHolds(t, lower, upper)
						lessHolds(t, upper, lower)
					}
				}
			}
		}
	}
}

func TestSureSignByHand(t *testing.T) {
	for _, c := range []struct {
		s    impl.Span
		want int
		ok   bool
	}{
		{span(0, 0), 0, true},
		{span(1, 1), 1, true},
		{span(-1, -1), -1, true},
		{span(1, 2), 1, true},
		{span(-2, -1), -1, true},
		{span(0, 1), 0, false},
		{span(-1, 0), 0, false},
		{span(-1, 1), 0, false},
		{span(1, spanMax), 1, true},
		{span(0, spanMax), 0, false},
		{span(-spanMax, -1), -1, true},
		{span(-spanMax, 0), 0, false},
		{span(-spanMax, spanMax), 0, false},
		{point(spanMax), 1, true},
		{point(-spanMax), -1, true},
	} {
		if got, ok := impl.SureSign(c.s); got != c.want || ok != c.ok {
			t.Errorf("SureSign(%v) is %d, %v, want %d, %v", c.s, got, ok, c.want, c.ok)
		}
	}
}

func TestPromise31SurelyAboveZero(t *testing.T) {
	for _, s := range okSpans() {
		n, ok := impl.SureSign(s)
		low, high := whole(s.Low).Sign(), whole(s.High).Sign()
		if ok != (low == high) || !ok && n != 0 {
			t.Errorf("SureSign(%v) is %d, %v", s, n, ok)
		}
		for _, x := range withFractions(s) {
			if ok && x.Sign() != n {
				t.Errorf("SureSign(%v) is %d, but it has %v in it", s, n, x)
			}
		}
		if about, too := impl.SureSign(impl.SpanNeg(s)); about != -n || too != ok {
			t.Errorf("SureSign(%v) is %d, %v, turned about %d, %v", s, n, ok, about, too)
		}
		if above := impl.SureLess(point(0), s) == impl.SureYes; above != (n == 1) {
			t.Errorf("SureSign(%v) is %d, but 0 is surely less: %v", s, n, above)
		}
		if below := impl.SureLess(s, point(0)) == impl.SureYes; below != (n == -1) {
			t.Errorf("SureSign(%v) is %d, but it is surely less than 0: %v", s, n, below)
		}
	}
}

func notRounded(t *testing.T, s impl.Span, parts int, way int) {
	t.Helper()
	if n, ok := impl.SureRound(s, parts, way); ok || n != 0 {
		t.Errorf("SureRound(%v, %d, %d) is %d, %v", s, parts, way, n, ok)
	}
}

func wrongParts() []int {
	return []int{0, -1, -2, -unit, math.MinInt, math.MinInt + 1, unit + 1, unit + 2, spanMax, numMax, numMax + 1, math.MaxInt}
}

func wrongWays() []int {
	return []int{0, 5, 6, -1, -4, 256 + 1, 1<<32 + 1, math.MaxInt, math.MinInt, math.MinInt + 1}
}

func TestSureOfSpansThatAreNone(t *testing.T) {
	others := append(noSpans(), fewSpans()...)
	for _, no := range noSpans() {
		for _, parts := range append(wrongParts(), sureParts()...) {
			for _, way := range append(wrongWays(), roundWays()...) {
				notRounded(t, no, parts, way)
			}
		}
		if n, ok := impl.SureSign(no); ok || n != 0 {
			t.Errorf("SureSign(%v) is %d, %v", no, n, ok)
		}
		for _, other := range others {
			if got := impl.SureLess(no, other); got != impl.SureNot {
				t.Errorf("SureLess(%v, %v) is %d", no, other, got)
			}
			if got := impl.SureLess(other, no); got != impl.SureNot {
				t.Errorf("SureLess(%v, %v) is %d", other, no, got)
			}
		}
	}
}

func TestSureRoundToPartsThatAreNone(t *testing.T) {
	for _, s := range okSpans() {
		for _, parts := range wrongParts() {
			for _, way := range append(wrongWays(), roundWays()...) {
				notRounded(t, s, parts, way)
			}
		}
	}
}

func TestSureRoundByAWayThatIsNone(t *testing.T) {
	for _, s := range okSpans() {
		for _, parts := range sureParts() {
			for _, way := range wrongWays() {
				notRounded(t, s, parts, way)
			}
		}
	}
}
