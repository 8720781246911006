package tests

import (
	"fmt"
	"math"
	"math/big"
	"regexp"
	"slices"
	"strconv"
	"strings"
	"testing"

	"loop.example/alidade/impl"
)

const (
	turn   = impl.AngTurn
	half   = impl.AngTurn / 2
	angMax = impl.AngMax
)

// turnAngles are ascending, at most a turn either way: what lies about each of the parts, and many ordinary ones between.
func turnAngles() []int {
	var out []int
	for _, part := range []int{0, impl.AngSecond, 59 * impl.AngSecond, impl.AngMinute, 59 * impl.AngMinute, impl.AngDegree, 9 * impl.AngDegree, 10 * impl.AngDegree, 99 * impl.AngDegree, 100 * impl.AngDegree, impl.AngQuart, half, half + impl.AngQuart, 359 * impl.AngDegree, turn} {
		for a := part - 2; a <= part+2; a++ {
			if a <= turn {
				out = append(out, a, -a)
			}
		}
	}
	for a := 4545678; a <= turn; a += 1299721 {
		out = append(out, a, -a)
	}
	slices.Sort(out)
	return slices.Compact(out)
}

// manyAngles are turnAngles, and those beyond a turn, up to AngMax.
func manyAngles() []int {
	out := turnAngles()
	for _, far := range []int{half + turn, 2 * turn, 3*turn - half, 7715 * turn, 7716*turn - half, 123456789012, angMax - turn, angMax - half, angMax} {
		for a := far - 2; a <= far+2; a++ {
			if a <= angMax {
				out = append(out, a, -a)
			}
		}
	}
	out = append(out, turn+1, turn+2, -turn-1, -turn-2)
	slices.Sort(out)
	return slices.Compact(out)
}

func beyondAngMax() []int {
	return []int{
		angMax + 1, -angMax - 1, angMax + 2, angMax + turn, -angMax - turn, 1 << 60, -1 << 60,
		math.MaxInt, math.MaxInt - 1, math.MaxInt - turn, math.MinInt, math.MinInt + 1, math.MinInt + turn,
	}
}

func beyondATurn() []int {
	return append([]int{turn + 1, -turn - 1, turn + 2, 2 * turn, -2 * turn, angMax, -angMax}, beyondAngMax()...)
}

func mustNorm(t *testing.T, a int) int {
	t.Helper()
	n, ok := impl.AngNorm(a)
	if !ok {
		t.Fatalf("AngNorm(%d) is false", a)
	}
	return n
}

func mustDiff(t *testing.T, a int, b int) int {
	t.Helper()
	d, ok := impl.AngDiff(a, b)
	if !ok {
		t.Fatalf("AngDiff(%d, %d) is false", a, b)
	}
	return d
}

func mustParts(t *testing.T, a int) impl.Ang {
	t.Helper()
	x, ok := impl.AngParts(a)
	if !ok {
		t.Fatalf("AngParts(%d) is false", a)
	}
	return x
}

func sizeOf(x impl.Ang) int {
	return ((x.Deg*60+x.Min)*60+x.Sec)*100 + x.Hund
}

func eachAnglePair(do func(a int, b int)) {
	angles := manyAngles()
	for _, a := range angles {
		for _, b := range angles {
			do(a, b)
		}
	}
}

func TestAngleConstants(t *testing.T) {
	got := []int{impl.AngSecond, impl.AngMinute, impl.AngDegree, impl.AngQuart, impl.AngTurn, impl.AngMax}
	if want := []int{100, 6000, 360000, 32400000, 129600000, 1000000000000}; !slices.Equal(got, want) {
		t.Errorf("constants are %v, want %v", got, want)
	}
}

func TestAngNormByHand(t *testing.T) {
	for _, c := range []struct{ a, want int }{
		{0, 0}, {1, 1}, {-1, 129599999}, {129599999, 129599999}, {129600000, 0}, {129600001, 1},
		{-129599999, 1}, {-129600000, 0}, {-129600001, 129599999}, {64800000, 64800000}, {-64800000, 64800000},
		{1000000000000, 6400000}, {-1000000000000, 123200000}, {999999999999, 6399999}, {-999999999999, 123200001},
	} {
		if n, ok := impl.AngNorm(c.a); !ok || n != c.want {
			t.Errorf("AngNorm(%d) is %d, %v, want %d", c.a, n, ok, c.want)
		}
	}
}

func TestPromise32NormIsLessWholeTurns(t *testing.T) {
	for _, a := range manyAngles() {
		n := mustNorm(t, a)
		if want := new(big.Int).Mod(big.NewInt(int64(a)), big.NewInt(turn)); n < 0 || n >= turn || int64(n) != want.Int64() {
			t.Errorf("AngNorm(%d) is %d, want %v", a, n, want)
		}
		if again := mustNorm(t, n); again != n {
			t.Errorf("AngNorm(%d) is %d, and of that %d", a, n, again)
		}
	}
}

func TestPromise32WholeTurnsMoreChangeNothing(t *testing.T) {
	held := 0
	for _, a := range manyAngles() {
		for _, turns := range []int{-15432, -7716, -7715, -3, -2, -1, 1, 2, 3, 7715, 7716, 15432} {
			more := a + turns*turn
			if more < -angMax || more > angMax {
				continue
			}
			held++
			if n, m := mustNorm(t, a), mustNorm(t, more); n != m {
				t.Errorf("AngNorm(%d) is %d, with %d turns more %d", a, n, turns, m)
			}
		}
	}
	if held < 1000 {
		t.Errorf("only %d were held against each other", held)
	}
}

func TestAngDiffByHand(t *testing.T) {
	for _, c := range []struct{ a, b, want int }{
		{0, 0, 0}, {0, 1, 1}, {1, 0, -1}, {-1, 1, 2}, {1, -1, -2}, {5, 5, 0},
		{0, 64800000, 64800000}, {64800000, 0, 64800000}, {0, -64800000, 64800000}, {-64800000, 0, 64800000},
		{0, 64800001, -64799999}, {64800001, 0, 64799999}, {0, -64800001, 64799999}, {-64800001, 0, -64799999},
		{0, 64799999, 64799999}, {64799999, 0, -64799999}, {0, -64799999, -64799999}, {-64799999, 0, 64799999},
		{7, 64800007, 64800000}, {64800007, 7, 64800000}, {7, 64800008, -64799999}, {64800008, 7, 64799999},
		{32400000, -32400000, 64800000}, {-32400000, 32400000, 64800000},
		{0, 129600000, 0}, {129600000, 0, 0}, {0, 129600001, 1}, {129600001, 0, -1}, {0, 129599999, -1}, {129599999, 0, 1},
		{129599999, 1, 2}, {1, 129599999, -2}, {0, 194400000, 64800000}, {194400000, 0, 64800000},
		{0, 1000000000000, 6400000}, {1000000000000, 0, -6400000}, {-1000000000000, 0, 6400000}, {0, -1000000000000, -6400000},
		{-1000000000000, 1000000000000, 12800000}, {1000000000000, -1000000000000, -12800000},
		{1000000000000, 1000000000000, 0}, {-1000000000000, -1000000000000, 0},
		{1000000000000, 999935200000, 64800000}, {999935200000, 1000000000000, 64800000},
	} {
		if d, ok := impl.AngDiff(c.a, c.b); !ok || d != c.want {
			t.Errorf("AngDiff(%d, %d) is %d, %v, want %d", c.a, c.b, d, ok, c.want)
		}
	}
}

func TestPromise33DiffLeadsThere(t *testing.T) {
	eachAnglePair(func(a int, b int) {
		d := mustDiff(t, a, b)
		if d <= -half || d > half {
			t.Errorf("AngDiff(%d, %d) is %d", a, b, d)
		}
		if (a+d-b)%turn != 0 {
			t.Errorf("AngDiff(%d, %d) is %d, which leads to %d", a, b, d, a+d)
		}
	})
}

func TestPromise34TheWayBackIsAsFar(t *testing.T) {
	halves := 0
	eachAnglePair(func(a int, b int) {
		there, back := mustDiff(t, a, b), mustDiff(t, b, a)
		want := -there
		if there == half {
			halves++
			want = half
		}
		if back != want {
			t.Errorf("AngDiff(%d, %d) is %d, the other way %d", a, b, there, back)
		}
	})
	if halves < 50 {
		t.Errorf("only %d pairs are half a turn apart", halves)
	}
}

func TestPromise34ToItselfItIsZero(t *testing.T) {
	for _, a := range manyAngles() {
		if d := mustDiff(t, a, a); d != 0 {
			t.Errorf("AngDiff(%d, %d) is %d", a, a, d)
		}
	}
}

func TestPromise41TwoWaysTogether(t *testing.T) {
	var angles []int
	for i, a := range manyAngles() {
		if i%3 == 0 || a%half == 0 {
			angles = append(angles, a)
		}
	}
	for _, a := range angles {
		for _, b := range angles {
			first := mustDiff(t, a, b)
			for _, c := range angles {
				if second, both := mustDiff(t, b, c), mustDiff(t, a, c); (first+second-both)%turn != 0 {
					t.Errorf("from %d to %d it is %d, to %d %d more, but %d at once", a, b, first, c, second, both)
				}
			}
		}
	}
}

// written are angles, their parts, and their texts.
func written() []struct {
	a    int
	x    impl.Ang
	text string
} {
	return []struct {
		a    int
		x    impl.Ang
		text string
	}{
		{0, impl.Ang{}, "0d00m00.00s"},
		{1, impl.Ang{Hund: 1}, "0d00m00.01s"},
		{-1, impl.Ang{Less: true, Hund: 1}, "-0d00m00.01s"},
		{99, impl.Ang{Hund: 99}, "0d00m00.99s"},
		{100, impl.Ang{Sec: 1}, "0d00m01.00s"},
		{-100, impl.Ang{Less: true, Sec: 1}, "-0d00m01.00s"},
		{5999, impl.Ang{Sec: 59, Hund: 99}, "0d00m59.99s"},
		{6000, impl.Ang{Min: 1}, "0d01m00.00s"},
		{-6000, impl.Ang{Less: true, Min: 1}, "-0d01m00.00s"},
		{359999, impl.Ang{Min: 59, Sec: 59, Hund: 99}, "0d59m59.99s"},
		{-359999, impl.Ang{Less: true, Min: 59, Sec: 59, Hund: 99}, "-0d59m59.99s"},
		{360000, impl.Ang{Deg: 1}, "1d00m00.00s"},
		{-360000, impl.Ang{Less: true, Deg: 1}, "-1d00m00.00s"},
		{3599999, impl.Ang{Deg: 9, Min: 59, Sec: 59, Hund: 99}, "9d59m59.99s"},
		{3600000, impl.Ang{Deg: 10}, "10d00m00.00s"},
		{4545678, impl.Ang{Deg: 12, Min: 37, Sec: 36, Hund: 78}, "12d37m36.78s"},
		{-4545678, impl.Ang{Less: true, Deg: 12, Min: 37, Sec: 36, Hund: 78}, "-12d37m36.78s"},
		{35999999, impl.Ang{Deg: 99, Min: 59, Sec: 59, Hund: 99}, "99d59m59.99s"},
		{36000000, impl.Ang{Deg: 100}, "100d00m00.00s"},
		{64800000, impl.Ang{Deg: 180}, "180d00m00.00s"},
		{-64800001, impl.Ang{Less: true, Deg: 180, Hund: 1}, "-180d00m00.01s"},
		{129599999, impl.Ang{Deg: 359, Min: 59, Sec: 59, Hund: 99}, "359d59m59.99s"},
		{-129599999, impl.Ang{Less: true, Deg: 359, Min: 59, Sec: 59, Hund: 99}, "-359d59m59.99s"},
		{129600000, impl.Ang{Deg: 360}, "360d00m00.00s"},
		{-129600000, impl.Ang{Less: true, Deg: 360}, "-360d00m00.00s"},
	}
}

func TestAngleWrittenByHand(t *testing.T) {
	for _, c := range written() {
		if x, ok := impl.AngParts(c.a); !ok || x != c.x {
			t.Errorf("AngParts(%d) is %v, %v, want %v", c.a, x, ok, c.x)
		}
		if a, ok := impl.AngOf(c.x); !ok || a != c.a {
			t.Errorf("AngOf(%v) is %d, %v, want %d", c.x, a, ok, c.a)
		}
		if text := impl.AngText(c.a); text != c.text {
			t.Errorf("AngText(%d) is %q, want %q", c.a, text, c.text)
		}
		if a, ok := impl.AngRead(c.text); !ok || a != c.a {
			t.Errorf("AngRead(%q) is %d, %v, want %d", c.text, a, ok, c.a)
		}
	}
}

func TestPromise35AngOfOfAngParts(t *testing.T) {
	for _, a := range turnAngles() {
		x := mustParts(t, a)
		if size := sizeOf(x); size != max(a, -a) || x.Less != (a < 0) {
			t.Errorf("AngParts(%d) is %v", a, x)
		}
		if x.Deg < 0 || x.Deg > 360 || x.Min < 0 || x.Min > 59 || x.Sec < 0 || x.Sec > 59 || x.Hund < 0 || x.Hund > 99 {
			t.Errorf("AngParts(%d) is %v", a, x)
		}
		if b, ok := impl.AngOf(x); !ok || b != a {
			t.Errorf("AngOf of the parts %v of %d is %d, %v", x, a, b, ok)
		}
	}
}

func TestPromise36AngPartsOfAngOf(t *testing.T) {
	for _, deg := range []int{0, 1, 9, 10, 99, 100, 180, 359, 360} {
		for _, minutes := range []int{0, 1, 9, 10, 37, 58, 59} {
			for _, sec := range []int{0, 1, 9, 10, 36, 58, 59} {
				for _, hund := range []int{0, 1, 9, 10, 78, 98, 99} {
					for _, less := range []bool{false, true} {
						partsComeBack(t, impl.Ang{Less: less, Deg: deg, Min: minutes, Sec: sec, Hund: hund})
					}
				}
			}
		}
	}
}

// partsComeBack is asked of parts that are each in their range.
func partsComeBack(t *testing.T, x impl.Ang) {
	t.Helper()
	a, ok := impl.AngOf(x)
	size := sizeOf(x)
	if size > turn || size == 0 && x.Less {
		if ok || a != 0 {
			t.Errorf("AngOf(%v) is %d, %v", x, a, ok)
		}
		return
	}
	if y, told := impl.AngParts(a); !ok || !told || y != x {
		t.Errorf("AngOf(%v) is %d, %v, and the parts of that %v, %v", x, a, ok, y, told)
	}
}

func TestPromise37ReadBackFromItsText(t *testing.T) {
	for _, a := range turnAngles() {
		text := impl.AngText(a)
		if b, ok := impl.AngRead(text); !ok || b != a {
			t.Errorf("AngRead(%q) is %d, %v, want %d", text, b, ok, a)
		}
	}
	for a := -turn; a <= turn; a += 99991 {
		if b, ok := impl.AngRead(impl.AngText(a)); !ok || b != a {
			t.Errorf("AngRead(AngText(%d)) is %d, %v", a, b, ok)
		}
	}
}

// textForm is what a text of an angle looks like; how great it is is not asked.
var textForm = regexp.MustCompile(`\A(-?)(0|[1-9][0-9]{0,2})d([0-5][0-9])m([0-5][0-9])\.([0-9][0-9])s\z`)

// readByForm reads an angle by its form alone.
func readByForm(text string) (int, bool) {
	found := textForm.FindStringSubmatch(text)
	if found == nil {
		return 0, false
	}
	size := 0
	for i, worth := range []int{360000, 6000, 100, 1} {
		n, err := strconv.Atoi(found[2+i])
		if err != nil {
			return 0, false
		}
		size += n * worth
	}
	less := found[1] == "-"
	if size > turn || size == 0 && less {
		return 0, false
	}
	if less {
		return -size, true
	}
	return size, true
}

func readsAsItsForm(t *testing.T, text string) bool {
	t.Helper()
	a, ok := impl.AngRead(text)
	if want, told := readByForm(text); a != want || ok != told {
		t.Errorf("AngRead(%q) is %d, %v, want %d, %v", text, a, ok, want, told)
	}
	if ok && impl.AngText(a) != text {
		t.Errorf("AngRead(%q) is %d, whose text is %q", text, a, impl.AngText(a))
	}
	return ok
}

// nearly are all texts that come of one by a piece put in, put in the place of a byte, or a byte left out, or two changed.
func nearly(text string) []string {
	var out []string
	pieces := []string{"0", "1", "3", "5", "6", "9", "-", "+", "d", "m", ".", "s", "D", "S", ",", " ", "\t", "\n", "\x00", "\xff", "٣", "−", "д", "３", "/", ":", "00"}
	for at := 0; at <= len(text); at++ {
		for _, piece := range pieces {
			out = append(out, text[:at]+piece+text[at:])
			if at < len(text) {
				out = append(out, text[:at]+piece+text[at+1:])
			}
		}
		if at < len(text) {
			out = append(out, text[:at]+text[at+1:], text[:at])
		}
		if at+1 < len(text) {
			out = append(out, text[:at]+text[at+1:at+2]+text[at:at+1]+text[at+2:])
		}
	}
	return out
}

func TestPromise38JustOneText(t *testing.T) {
	read, notRead := 0, 0
	for _, c := range written() {
		for _, text := range nearly(c.text) {
			if readsAsItsForm(t, text) {
				read++
			} else {
				notRead++
			}
		}
	}
	if read < 500 || notRead < 5000 {
		t.Errorf("only %d were read, %d not", read, notRead)
	}
}

func TestPromise38EachPartAsText(t *testing.T) {
	for _, sign := range []string{"", "-"} {
		for _, deg := range []int{0, 1, 12, 359, 360} {
			for n := 0; n <= 99; n++ {
				readsAsItsForm(t, fmt.Sprintf("%s%dd%02dm00.00s", sign, deg, n))
				readsAsItsForm(t, fmt.Sprintf("%s%dd00m%02d.00s", sign, deg, n))
				readsAsItsForm(t, fmt.Sprintf("%s%dd00m00.%02ds", sign, deg, n))
			}
		}
		for deg := 0; deg <= 1200; deg++ {
			readsAsItsForm(t, fmt.Sprintf("%s%dd00m00.00s", sign, deg))
			readsAsItsForm(t, fmt.Sprintf("%s%03dd59m59.99s", sign, deg))
		}
	}
}

func TestPromise39TextsAreTheSameJustIfAnglesAre(t *testing.T) {
	angleOf := map[string]int{}
	longest := 0
	hold := func(a int) {
		text := impl.AngText(a)
		if text != impl.AngText(a) {
			t.Errorf("AngText(%d) has two answers", a)
		}
		longest = max(longest, len(text))
		if other, is := angleOf[text]; is && other != a {
			t.Errorf("AngText of %d and of %d is %q", a, other, text)
		}
		angleOf[text] = a
	}
	for _, a := range turnAngles() {
		hold(a)
	}
	for a := -turn; a <= turn; a += 9973 {
		hold(a)
	}
	if longest != 14 {
		t.Errorf("the longest text has %d bytes", longest)
	}
}

func TestPromise40SignAheadOfTheText(t *testing.T) {
	for _, a := range turnAngles() {
		text := impl.AngText(a)
		if strings.HasPrefix(text, "-") != (a < 0) || strings.LastIndex(text, "-") > 0 {
			t.Errorf("AngText(%d) is %q", a, text)
		}
		if a > 0 && impl.AngText(-a) != "-"+text {
			t.Errorf("AngText(%d) is %q, AngText(%d) %q", a, text, -a, impl.AngText(-a))
		}
		if _, told := readByForm(text); !told {
			t.Errorf("AngText(%d) is %q", a, text)
		}
	}
}

func TestAngleBeyondAngMax(t *testing.T) {
	for _, a := range beyondAngMax() {
		if n, ok := impl.AngNorm(a); ok || n != 0 {
			t.Errorf("AngNorm(%d) is %d, %v", a, n, ok)
		}
		for _, b := range append(beyondAngMax(), 0, 1, -1, half, turn, -turn, angMax, -angMax) {
			if d, ok := impl.AngDiff(a, b); ok || d != 0 {
				t.Errorf("AngDiff(%d, %d) is %d, %v", a, b, d, ok)
			}
			if d, ok := impl.AngDiff(b, a); ok || d != 0 {
				t.Errorf("AngDiff(%d, %d) is %d, %v", b, a, d, ok)
			}
		}
	}
}

func TestAngleBeyondATurn(t *testing.T) {
	for _, a := range beyondATurn() {
		if x, ok := impl.AngParts(a); ok || x != (impl.Ang{}) {
			t.Errorf("AngParts(%d) is %v, %v", a, x, ok)
		}
		if text := impl.AngText(a); text != "" {
			t.Errorf("AngText(%d) is %q", a, text)
		}
	}
}

func TestAngOfPartsThatAreNone(t *testing.T) {
	var wrong []impl.Ang
	far := []int{-1, -2, -60, math.MinInt, math.MinInt + 1, math.MaxInt, math.MaxInt/impl.AngDegree + 1, 1 << 32, 1 << 60}
	for _, n := range far {
		wrong = append(wrong, impl.Ang{Deg: n}, impl.Ang{Min: n}, impl.Ang{Sec: n}, impl.Ang{Hund: n})
		// Others that are great enough to make up for it do not help.
		wrong = append(wrong, impl.Ang{Deg: n, Min: 59, Sec: 59, Hund: 99}, impl.Ang{Deg: 12, Min: n}, impl.Ang{Deg: 12, Sec: n}, impl.Ang{Deg: 12, Hund: n})
	}
	wrong = append(wrong,
		impl.Ang{Deg: 361}, impl.Ang{Min: 60}, impl.Ang{Sec: 60}, impl.Ang{Hund: 100},
		impl.Ang{Deg: 12, Min: 60}, impl.Ang{Deg: 12, Sec: 60}, impl.Ang{Deg: 12, Hund: 100},
		impl.Ang{Deg: 360, Hund: 1}, impl.Ang{Deg: 360, Sec: 1}, impl.Ang{Deg: 360, Min: 1}, impl.Ang{Deg: 360, Min: 59, Sec: 59, Hund: 99},
		impl.Ang{Deg: 361, Min: -1}, impl.Ang{Deg: 361, Min: -60}, impl.Ang{Deg: 1, Min: -1, Sec: 60}, impl.Ang{Sec: 1, Hund: -100},
	)
	for _, x := range wrong {
		for _, less := range []bool{false, true} {
			x.Less = less
			if a, ok := impl.AngOf(x); ok || a != 0 {
				t.Errorf("AngOf(%v) is %d, %v", x, a, ok)
			}
		}
	}
}

func TestAngOfZeroHasNoSign(t *testing.T) {
	if a, ok := impl.AngOf(impl.Ang{}); !ok || a != 0 {
		t.Errorf("AngOf of 0 is %d, %v", a, ok)
	}
	if a, ok := impl.AngOf(impl.Ang{Less: true}); ok || a != 0 {
		t.Errorf("AngOf of 0 with Less is %d, %v", a, ok)
	}
	if a, ok := impl.AngRead("-0d00m00.00s"); ok || a != 0 {
		t.Errorf("AngRead of 0 with a sign is %d, %v", a, ok)
	}
}

// wrongTexts are nearly texts of angles.
func wrongTexts() []string {
	return []string{
		"", "-", "--", "+", " ", "0", "12", "d", "s", "-s", "dm.s", "-dm.s", "12d37m36.78", "12d37m36.s", "12d37m36s", "12d37m", "12d", "d37m36.78s",
		"--12d37m36.78s", "+12d37m36.78s", "-+12d37m36.78s", "+-12d37m36.78s", "12-d37m36.78s", "12d-37m36.78s", "12d37m36.78s-", "12d37m36.-78s",
		"-0d00m00.00s", "+0d00m00.00s", "--0d00m00.01s",
		"012d37m36.78s", "-012d37m36.78s", "00d00m00.00s", "000d00m00.00s", "00d00m00.01s", "0360d00m00.00s", "001d00m00.00s",
		"12d7m36.78s", "12d37m6.78s", "12d37m36.8s", "12d037m36.78s", "12d37m036.78s", "12d37m36.078s", "12d37m36.780s", "12dm36.78s", "12d37m.78s", "12d37m36.s",
		"12x37m36.78s", "12d37x36.78s", "12d37m36x78s", "12d37m36.78x", "12m37d36.78s", "12d37s36.78m", "12d37m36:78s", "12d37m36.78d",
		"12dd37m36.78s", "12d37mm36.78s", "12d37m36..78s", "12d37m36.78ss", "12D37m36.78s", "12d37M36.78s", "12d37m36.78S", "12D37M36.78S",
		"1237m36.78s", "12d3736.78s", "12d37m3678s", "12d37m36,78s", "12d37m36·78s", "12°37′36.78″",
		" 12d37m36.78s", "12d37m36.78s ", "12 d37m36.78s", "12d 37m36.78s", "12d37m36. 78s", "12d37m 6.78s", " 2d37m36.78s", "- 12d37m36.78s", "\t12d37m36.78s", "12d37m36.78s\n", "12d37m36.78s\x00", "\x0012d37m36.78s", "12d37m36.78s\r\n",
		"12d37m36.78s0", "12d37m36.78s12d37m36.78s", "12d37m36.78s 12d37m36.78s", "12d37m36.78s-", "0d00m00.00s0d00m00.00s",
		"１２d37m36.78s", "١٢d37m36.78s", "12d３７m36.78s", "−12d37m36.78s", "–12d37m36.78s", "12d37m36．78s", "12ԁ37m36.78s", "12ｄ37m36.78s", "12d37m36.78ѕ",
		"\xff", "\xff12d37m36.78s", "12d37m36.78s\xff", "12d\xff7m36.78s", "12d37m36\xff78s", "\xc3d37m36.78s", "\xed\xa0\x80", "12d37m36.78\xf3", "\ufffd2d37m36.78s", "\ufeff12d37m36.78s",
		"361d00m00.00s", "360d00m00.01s", "-360d00m00.01s", "360d00m01.00s", "360d01m00.00s", "-361d00m00.00s", "999d59m59.99s", "1000d00m00.00s", "12d60m00.00s", "12d00m60.00s", "12d99m36.78s", "12d37m99.78s",
		"9223372036854775807d00m00.00s", "18446744073709551616d00m00.00s", "18446744073709551628d37m36.78s", "99999999999999",
		"0x1d00m00.00s", "1e1d00m00.00s", "1_0d00m00.00s", "NaNd00m00.00s",
	}
}

func TestAngReadOfTextsThatAreNone(t *testing.T) {
	long := []string{
		strings.Repeat("0", 100000) + "d00m00.00s", strings.Repeat("9", 100000), strings.Repeat("1", 65536) + "d37m36.78s",
		strings.Repeat("-", 100000), "12d37m36.78s" + strings.Repeat(" ", 100000), strings.Repeat("12d37m36.78s", 10000), strings.Repeat("\xff", 100000),
	}
	for _, text := range append(wrongTexts(), long...) {
		if a, ok := impl.AngRead(text); ok || a != 0 {
			t.Errorf("AngRead(%.60q) is %d, %v", text, a, ok)
		}
	}
}

func TestAngReadOfEachByteBehindAndAhead(t *testing.T) {
	for b := 0; b < 256; b++ {
		one := string([]byte{byte(b)})
		for _, text := range []string{"0d00m00.00s", "12d37m36.78s", "-0d00m00.01s", "-360d00m00.00s"} {
			readsAsItsForm(t, text+one)
			readsAsItsForm(t, one+text)
			for at := range len(text) {
				readsAsItsForm(t, text[:at]+one+text[at+1:])
			}
		}
	}
}

func FuzzAngRead(f *testing.F) {
	for _, c := range written() {
		f.Add(c.text)
	}
	for _, text := range wrongTexts() {
		f.Add(text)
	}
	f.Fuzz(func(t *testing.T, text string) {
		readsAsItsForm(t, text)
	})
}
