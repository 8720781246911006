package tests

import (
	"math"
	"slices"
	"testing"

	"loop.example/alidade/impl"
)

const numMax = impl.NumMax

func roundWays() []int {
	return []int{impl.RoundDown, impl.RoundUp, impl.RoundZero, impl.RoundEven}
}

func divisors() []int {
	out := []int{1<<30 - 1, 1 << 30, 1<<30 + 1, 1e9, numMax/3 - 1, numMax / 3, numMax/2 - 1, numMax / 2, numMax/2 + 1, numMax - 2, numMax - 1, numMax}
	for b := 1; b <= 25; b++ {
		out = append(out, b)
	}
	return out
}

// dividends are ascending; they have all small numbers, the limits, and what lies about whole and half ones of great divisors, either side of 0.
func dividends() []int {
	out := []int{0}
	for a := 1; a <= 130; a++ {
		out = append(out, a, -a)
	}
	for _, b := range []int{1<<30 - 1, 1 << 30, 1e9, numMax / 3, numMax / 2, numMax - 2, numMax} {
		for halves := 1; halves <= 5; halves++ {
			middle := b / 2 * halves
			for a := middle - 2; a <= middle+2 && a <= numMax; a++ {
				out = append(out, a, -a)
			}
		}
	}
	out = append(out, numMax-1, numMax, 1-numMax, -numMax)
	slices.Sort(out)
	return slices.Compact(out)
}

func eachDivision(do func(a int, b int)) {
	for _, b := range divisors() {
		for _, a := range dividends() {
			do(a, b)
		}
	}
}

func mustRound(t *testing.T, a int, b int, way int) int {
	t.Helper()
	n, ok := impl.NumRound(a, b, way)
	if !ok {
		t.Fatalf("NumRound(%d, %d, %d) is false", a, b, way)
	}
	return n
}

func mustDown(t *testing.T, a int, b int) int {
	t.Helper()
	n, ok := impl.NumDown(a, b)
	if !ok {
		t.Fatalf("NumDown(%d, %d) is false", a, b)
	}
	return n
}

func mustUp(t *testing.T, a int, b int) int {
	t.Helper()
	n, ok := impl.NumUp(a, b)
	if !ok {
		t.Fatalf("NumUp(%d, %d) is false", a, b)
	}
	return n
}

func TestNumConstants(t *testing.T) {
	if !slices.Equal(roundWays(), []int{1, 2, 3, 4}) {
		t.Errorf("ways are %v", roundWays())
	}
	if impl.NumMax != 1152921504606846976 {
		t.Errorf("NumMax is %d", impl.NumMax)
	}
}

func TestNumRoundedByHand(t *testing.T) {
	for _, c := range []struct{ a, b, down, up, zero, even int }{
		{0, 1, 0, 0, 0, 0},
		{0, numMax, 0, 0, 0, 0},
		{1, 2, 0, 1, 0, 0},
		{3, 2, 1, 2, 1, 2},
		{5, 2, 2, 3, 2, 2},
		{7, 2, 3, 4, 3, 4},
		{-1, 2, -1, 0, 0, 0},
		{-3, 2, -2, -1, -1, -2},
		{-5, 2, -3, -2, -2, -2},
		{-7, 2, -4, -3, -3, -4},
		{15, 10, 1, 2, 1, 2},
		{25, 10, 2, 3, 2, 2},
		{-25, 10, -3, -2, -2, -2},
		{-15, 10, -2, -1, -1, -2},
		{7, 5, 1, 2, 1, 1},
		{8, 5, 1, 2, 1, 2},
		{-7, 5, -2, -1, -1, -1},
		{-8, 5, -2, -1, -1, -2},
		{-6, 3, -2, -2, -2, -2},
		{numMax, 1, numMax, numMax, numMax, numMax},
		{-numMax, 1, -numMax, -numMax, -numMax, -numMax},
		{numMax, numMax, 1, 1, 1, 1},
		{-numMax, numMax, -1, -1, -1, -1},
		{1, numMax, 0, 1, 0, 0},
		{-1, numMax, -1, 0, 0, 0},
		{numMax - 1, numMax, 0, 1, 0, 1},
		{1 - numMax, numMax, -1, 0, 0, -1},
		{numMax / 2, numMax, 0, 1, 0, 0},
		{numMax/2 + 1, numMax, 0, 1, 0, 1},
		{-numMax / 2, numMax, -1, 0, 0, 0},
		{-numMax/2 - 1, numMax, -1, 0, 0, -1},
		{3 * (numMax / 4), numMax / 2, 1, 2, 1, 2},
		{-3 * (numMax / 4), numMax / 2, -2, -1, -1, -2},
		{numMax, numMax - 1, 1, 2, 1, 1},
		{-numMax, numMax - 1, -2, -1, -1, -1},
		{numMax, 3, 384307168202282325, 384307168202282326, 384307168202282325, 384307168202282325},
		{-numMax, 3, -384307168202282326, -384307168202282325, -384307168202282325, -384307168202282325},
	} {
		for i, want := range []int{c.down, c.up, c.zero, c.even} {
			if n := mustRound(t, c.a, c.b, roundWays()[i]); n != want {
				t.Errorf("NumRound(%d, %d, %d) is %d, want %d", c.a, c.b, roundWays()[i], n, want)
			}
		}
		if n := mustDown(t, c.a, c.b); n != c.down {
			t.Errorf("NumDown(%d, %d) is %d, want %d", c.a, c.b, n, c.down)
		}
		if n := mustUp(t, c.a, c.b); n != c.up {
			t.Errorf("NumUp(%d, %d) is %d, want %d", c.a, c.b, n, c.up)
		}
	}
}

func TestPromise1WhatIsLeftOfNumDown(t *testing.T) {
	eachDivision(func(a int, b int) {
		n := mustDown(t, a, b)
		if left := a - n*b; left < 0 || left >= b {
			t.Errorf("NumDown(%d, %d) is %d, what is left is %d", a, b, n, left)
		}
	})
}

func TestPromise2NumUpIsNumDownTurnedAbout(t *testing.T) {
	eachDivision(func(a int, b int) {
		n := mustUp(t, a, b)
		if want := -mustDown(t, -a, b); n != want {
			t.Errorf("NumUp(%d, %d) is %d, turned about %d", a, b, n, want)
		}
		if lacking := n*b - a; lacking < 0 || lacking >= b {
			t.Errorf("NumUp(%d, %d) is %d, which is %d more", a, b, n, lacking)
		}
	})
}

func TestPromise3NumRoundIsNumDownOrNumUp(t *testing.T) {
	eachDivision(func(a int, b int) {
		down, up := mustDown(t, a, b), mustUp(t, a, b)
		for _, way := range roundWays() {
			if n := mustRound(t, a, b, way); n != down && n != up {
				t.Errorf("NumRound(%d, %d, %d) is %d, neither %d nor %d", a, b, way, n, down, up)
			}
		}
	})
}

func TestPromise4RoundEvenIsTheNearest(t *testing.T) {
	halves := 0
	eachDivision(func(a int, b int) {
		n := mustRound(t, a, b, impl.RoundEven)
		twice := 2 * (a - n*b)
		if twice < -b || twice > b {
			t.Errorf("NumRound(%d, %d, RoundEven) is %d, not the nearest", a, b, n)
		}
		if twice == b || twice == -b {
			halves++
			if n%2 != 0 {
				t.Errorf("NumRound(%d, %d, RoundEven) is %d, which is odd", a, b, n)
			}
		}
	})
	if halves < 100 {
		t.Errorf("only %d halves were rounded", halves)
	}
}

func TestPromise5WaysAreWhatTheyAreCalled(t *testing.T) {
	eachDivision(func(a int, b int) {
		down, up := mustDown(t, a, b), mustUp(t, a, b)
		zero := down
		if a < 0 {
			zero = up
		}
		for i, want := range []int{down, up, zero} {
			if n := mustRound(t, a, b, roundWays()[i]); n != want {
				t.Errorf("NumRound(%d, %d, %d) is %d, want %d", a, b, roundWays()[i], n, want)
			}
		}
	})
}

func TestPromise6BelowZeroIsTurnedAbout(t *testing.T) {
	about := []int{impl.RoundUp, impl.RoundDown, impl.RoundZero, impl.RoundEven}
	eachDivision(func(a int, b int) {
		for i, way := range roundWays() {
			n, other := mustRound(t, a, b, way), mustRound(t, -a, b, about[i])
			if n != -other {
				t.Errorf("NumRound(%d, %d, %d) is %d, the contrary %d", a, b, way, n, other)
			}
		}
	})
}

func TestPromise7MoreIsNotRoundedToLess(t *testing.T) {
	for _, b := range divisors() {
		for _, way := range roundWays() {
			last := math.MinInt
			for _, a := range dividends() {
				n := mustRound(t, a, b, way)
				if n < last {
					t.Errorf("NumRound(%d, %d, %d) is %d, that of less is %d", a, b, way, n, last)
				}
				last = n
			}
		}
	}
}

func TestPromise8DividedByOne(t *testing.T) {
	for _, a := range dividends() {
		for _, way := range roundWays() {
			if n := mustRound(t, a, 1, way); n != a {
				t.Errorf("NumRound(%d, 1, %d) is %d", a, way, n)
			}
		}
		if down, up := mustDown(t, a, 1), mustUp(t, a, 1); down != a || up != a {
			t.Errorf("%d divided by 1 is %d and %d", a, down, up)
		}
	}
}

func TestPromise9SquareOfTheRoot(t *testing.T) {
	tried := []int{numMax, numMax - 1, numMax / 2, numMax / 3, 1e18, 1e18 - 1}
	for a := 0; a <= 2000; a++ {
		tried = append(tried, a)
	}
	for _, n := range []int{1000, 32767, 32768, 65535, 65536, 999999999, 1 << 29, 1<<30 - 2, 1<<30 - 1} {
		tried = append(tried, n*n-1, n*n, n*n+1, n*n+n, n*n+2*n)
	}
	for _, a := range tried {
		n, ok := impl.NumRoot(a)
		if !ok || n < 0 || n*n > a || (n+1)*(n+1) <= a {
			t.Errorf("NumRoot(%d) is %d, %v", a, n, ok)
		}
	}
	for _, c := range [][2]int{{0, 0}, {1, 1}, {2, 1}, {3, 1}, {4, 2}, {8, 2}, {9, 3}, {numMax - 1, 1<<30 - 1}, {numMax, 1 << 30}} {
		if n, ok := impl.NumRoot(c[0]); !ok || n != c[1] {
			t.Errorf("NumRoot(%d) is %d, %v, want %d", c[0], n, ok, c[1])
		}
	}
}

// refused holds what may not be divided, whatever the way, against the fixed answer.
func refused(t *testing.T, a int, b int) {
	t.Helper()
	if n, ok := impl.NumDown(a, b); ok || n != 0 {
		t.Errorf("NumDown(%d, %d) is %d, %v", a, b, n, ok)
	}
	if n, ok := impl.NumUp(a, b); ok || n != 0 {
		t.Errorf("NumUp(%d, %d) is %d, %v", a, b, n, ok)
	}
	for _, way := range append(roundWays(), 0, 5) {
		if n, ok := impl.NumRound(a, b, way); ok || n != 0 {
			t.Errorf("NumRound(%d, %d, %d) is %d, %v", a, b, way, n, ok)
		}
	}
}

func TestNumThatMayNotBeDivided(t *testing.T) {
	beyond := []int{numMax + 1, numMax + 2, math.MaxInt, -numMax - 1, -numMax - 2, math.MinInt + 1, math.MinInt}
	noDivisors := []int{0, -1, -2, -numMax, -numMax - 1, math.MinInt, numMax + 1, math.MaxInt}
	for _, a := range beyond {
		for _, b := range append([]int{1, 2, 3, numMax}, noDivisors...) {
			refused(t, a, b)
		}
	}
	for _, b := range noDivisors {
		for _, a := range []int{0, 1, -1, 7, numMax, -numMax} {
			refused(t, a, b)
		}
	}
}

func TestNumWayThatIsNone(t *testing.T) {
	for _, way := range []int{0, 5, 6, -1, -4, 256 + 1, 1<<32 + 1, math.MaxInt, math.MinInt, math.MinInt + 1} {
		for _, a := range []int{0, 7, -7, numMax, -numMax} {
			for _, b := range []int{1, 2, numMax} {
				if n, ok := impl.NumRound(a, b, way); ok || n != 0 {
					t.Errorf("NumRound(%d, %d, %d) is %d, %v", a, b, way, n, ok)
				}
			}
		}
	}
}

func TestNumWithoutRoot(t *testing.T) {
	for _, a := range []int{-1, -2, -4, -numMax, math.MinInt, numMax + 1, numMax + 2, 1 << 62, math.MaxInt} {
		if n, ok := impl.NumRoot(a); ok || n != 0 {
			t.Errorf("NumRoot(%d) is %d, %v", a, n, ok)
		}
	}
}
