package tests

import (
	"math"
	"math/big"
	"slices"
	"testing"

	"loop.example/alidade/impl"
)

type backFunc func(num int) (impl.Fan, bool)

func fan(low int, high int) impl.Fan {
	return impl.Fan{Low: low, High: high}
}

// aboutFrom is a fan of what each of its angles lacks to another angle.
func aboutFrom(a int, f impl.Fan) impl.Fan {
	return fan(a-f.High, a-f.Low)
}

func fansMeet(f impl.Fan, g impl.Fan) bool {
	return max(f.Low, g.Low) <= min(f.High, g.High)
}

// fansMeetButForTurns lets the other one be a turn further, or less far.
func fansMeetButForTurns(f impl.Fan, g impl.Fan) bool {
	return fansMeet(f, g) || fansMeet(f, fan(g.Low+turn, g.High+turn)) || fansMeet(f, fan(g.Low-turn, g.High-turn))
}

func mustBack(t *testing.T, name string, of backFunc, num int) impl.Fan {
	t.Helper()
	f, ok := of(num)
	if !ok {
		t.Fatalf("%s(%d) is false", name, num)
	}
	return f
}

func mustSineBack(t *testing.T, num int) impl.Fan {
	t.Helper()
	return mustBack(t, "SineBack", impl.SineBack, num)
}

func mustCosBack(t *testing.T, num int) impl.Fan {
	t.Helper()
	return mustBack(t, "CosBack", impl.CosBack, num)
}

func mustWay(t *testing.T, up int, right int) impl.Fan {
	t.Helper()
	f, ok := impl.WayOf(up, right)
	if !ok {
		t.Fatalf("WayOf(%d, %d) is false", up, right)
	}
	return f
}

// eitherWay are these numbers and their contraries, ascending, each once, none beyond one.
func eitherWay(nums []int) []int {
	var out []int
	for _, num := range nums {
		if num >= -unit && num <= unit {
			out = append(out, num, -num)
		}
	}
	slices.Sort(out)
	return slices.Compact(out)
}

// backNums are numbers that may be sines, ascending: the edges and what lies about them, the smallest ones, ordinary ones, and those where an end of a sine is met to the part.
func backNums() []int {
	var out []int
	for _, edge := range []int{0, unit / 2, unit, 258819045, 707106781, 866025403} {
		for aside := -3; aside <= 3; aside++ {
			out = append(out, edge+aside)
		}
	}
	for num := range 160 {
		out = append(out, num, unit-num)
	}
	for num := 1234567; num < unit; num += 7654321 {
		out = append(out, num)
	}
	for a := 271828; a < quart; a += 1618033 {
		s := sineInWords(2 * a)
		out = append(out, s.Low-1, s.Low, s.Low+1, s.High-1, s.High, s.High+1)
	}
	// About these an end of the sine falls, though the angle grows.
	for aside := -12; aside <= 12; aside++ {
		out = append(out, 999826798+aside, 999922543+aside)
	}
	return eitherWay(out)
}

// quartAngles are those of a quarter at most, either way.
func quartAngles() []int {
	var out []int
	for _, a := range sineAngles() {
		if a >= -quart && a <= quart {
			out = append(out, a)
		}
	}
	return out
}

// wayPlace lies so far up, and so far to the right.
type wayPlace struct{ up, right int }

// wayNums are few enough to take two of them each way: the edges, the smallest ones, and ordinary ones of every size.
func wayNums() []int {
	return eitherWay([]int{
		0, 1, 2, 3, 5, 7, 10, 47, 1000, 25000, 999983, 12345678, 123456789, 300000000, 400000000,
		unit/2 - 1, unit / 2, unit/2 + 1, 707106781, 866025403, 987654321, unit - 1, unit,
	})
}

// wayPlaces are all places of two of these numbers, but nowhere.
func wayPlaces() []wayPlace {
	var out []wayPlace
	for _, up := range wayNums() {
		for _, right := range wayNums() {
			if up != 0 || right != 0 {
				out = append(out, wayPlace{up, right})
			}
		}
	}
	return out
}

// The chapter's words, once more, with sines that are reckoned by numbers of any size.

// sinesKept keeps what sineInWords says, as halving asks again and again for the same ones.
type sinesKept map[int]impl.Span

func (k sinesKept) sine(a int) impl.Span {
	return k.halves(2 * a)
}

func (k sinesKept) cos(a int) impl.Span {
	return k.halves(2*a + 2*quart)
}

func (k sinesKept) halves(h int) impl.Span {
	s, ok := k[h]
	if !ok {
		s = sineInWords(h)
		k[h] = s
	}
	return s
}

func halvedInWords(lower int, upper int, question func(a int) bool) (int, int) {
	if upper-lower <= 1 {
		return lower, upper
	}
	middle := floor(big.NewRat(int64(lower+upper), 2))
	if question(middle) {
		return halvedInWords(middle, upper, question)
	}
	return halvedInWords(lower, middle, question)
}

func (k sinesKept) sineBack(num int) impl.Fan {
	low, _ := halvedInWords(-quart, quart, func(a int) bool { return k.sine(a).High <= num })
	_, high := halvedInWords(-quart, quart, func(a int) bool { return k.sine(a).Low < num })
	return fan(low, high)
}

// partsTimes is a number times parts of one, divided by SpanUnit.
func partsTimes(num int, parts int, up bool) int {
	return int(divided(times(big.NewInt(int64(num)), big.NewInt(int64(parts))), big.NewInt(unit), up).Int64())
}

// below is asked of numbers without their signs, as is above.
func (k sinesKept) below(up int, right int, a int) bool {
	return partsTimes(up, k.cos(a).Low, false)-partsTimes(right, k.sine(a).High, true) >= 0
}

func (k sinesKept) above(up int, right int, a int) bool {
	return !k.below(up, right, a) && partsTimes(up, k.cos(a).High, true)-partsTimes(right, k.sine(a).Low, false) <= 0
}

func (k sinesKept) way(p wayPlace) impl.Fan {
	up, right := max(p.up, -p.up), max(p.right, -p.right)
	low, _ := halvedInWords(0, quart, func(a int) bool { return k.below(up, right, a) })
	_, high := halvedInWords(0, quart, func(a int) bool { return !k.above(up, right, a) })
	if p.right < 0 {
		low, high = half-high, half-low
	}
	if p.up < 0 {
		low, high = -high, -low
	}
	return fan(low, high)
}

func TestBackJustAsTheWordsSay(t *testing.T) {
	kept := sinesKept{}
	for _, num := range backNums() {
		want := kept.sineBack(num)
		if got := mustSineBack(t, num); got != want {
			t.Errorf("SineBack(%d) is %v, want %v", num, got, want)
		}
		if got := mustCosBack(t, num); got != fan(quart-want.High, quart-want.Low) {
			t.Errorf("CosBack(%d) is %v, but SineBack is to be %v", num, got, want)
		}
	}
}

func TestWayJustAsTheWordsSay(t *testing.T) {
	kept := sinesKept{}
	places := wayPlaces()
	// Here an angle is below, though a lesser one is not.
	for _, up := range []int{2074441, 2074455, 2074469} {
		places = append(places, wayPlace{up, 25821}, wayPlace{up, -25821}, wayPlace{-up, 25821}, wayPlace{-up, -25821})
	}
	for _, p := range places {
		if got, want := mustWay(t, p.up, p.right), kept.way(p); got != want {
			t.Errorf("WayOf(%d, %d) is %v, want %v", p.up, p.right, got, want)
		}
	}
}

// Between the ends of a fan it is not sure on which side the place lies; that is not told as either.
func TestWayWhereItIsNotSure(t *testing.T) {
	kept := sinesKept{}
	for _, p := range []wayPlace{{1, 1}, {2, 2}, {3, 3}, {1, 2}, {2, 1}, {5, 3}, {3, 4}, {10, 10}, {1000, 1000}, {25000, 999983}, {unit, unit}, {707106781, 707106781}, {unit - 1, unit}} {
		f := mustWay(t, p.up, p.right)
		if f.High-f.Low < 2 {
			t.Errorf("WayOf(%d, %d) is %v, with nothing between", p.up, p.right, f)
		}
		for share := 1; share <= 50; share++ {
			a := f.Low + (f.High-f.Low)*share/51
			if a > f.Low && a < f.High && (kept.below(p.up, p.right, a) || kept.above(p.up, p.right, a)) {
				t.Errorf("WayOf(%d, %d) is %v, but %d is sure", p.up, p.right, f, a)
			}
		}
		for beyond := 1; beyond <= 50; beyond++ {
			if a := f.Low * beyond / 50; a > 0 && !kept.below(p.up, p.right, a) {
				t.Errorf("WayOf(%d, %d) is %v, but %d is not below", p.up, p.right, f, a)
			}
			if a := f.High + (quart-f.High)*beyond/51; a < quart && !kept.above(p.up, p.right, a) {
				t.Errorf("WayOf(%d, %d) is %v, but %d is not above", p.up, p.right, f, a)
			}
		}
	}
}

func TestBackByHand(t *testing.T) {
	for _, c := range []struct {
		num  int
		want impl.Fan
	}{
		{0, fan(0, 0)}, {1, fan(0, 1)}, {2, fan(0, 1)}, {47, fan(0, 1)}, {50, fan(1, 2)}, {100, fan(2, 3)},
		{173648177, fan(3599999, 3600001)}, {333333333, fan(7009639, 7009640)},
		{499999999, fan(10799999, 10800000)}, {500000000, fan(10800000, 10800000)}, {500000001, fan(10800000, 10800001)},
		{707106781, fan(16199999, 16200001)}, {866025403, fan(21599999, 21600001)},
		// Looked for from below, or from above, these would end elsewhere.
		{999826797, fan(32016092, 32016096)}, {999826798, fan(32016093, 32016099)},
		{999922543, fan(32143268, 32143276)}, {999922544, fan(32143273, 32143277)},
		{999999997, fan(32398155, 32398696)}, {999999998, fan(32398402, 32399078)}, {999999999, fan(32398695, 32399078)},
		{1000000000, fan(32399999, 32400000)},
	} {
		backIs(t, c.num, c.want)
		backIs(t, -c.num, aboutFrom(0, c.want))
	}
}

func backIs(t *testing.T, num int, want impl.Fan) {
	t.Helper()
	if got, ok := impl.SineBack(num); !ok || got != want {
		t.Errorf("SineBack(%d) is %v, %v, want %v", num, got, ok, want)
	}
	if got, ok := impl.CosBack(num); !ok || got != aboutFrom(32400000, want) {
		t.Errorf("CosBack(%d) is %v, %v, want %v", num, got, ok, aboutFrom(32400000, want))
	}
}

func TestWayByHand(t *testing.T) {
	for _, c := range []struct {
		up, right int
		want      impl.Fan
	}{
		{0, 1, fan(0, 1)}, {0, 5, fan(0, 1)}, {0, unit, fan(0, 1)}, {1, unit, fan(0, 1)}, {5, unit, fan(0, 1)},
		{1, 1, fan(0, 32400000)}, {1, 2, fan(0, 10800000)}, {2, 1, fan(21600000, 32400000)}, {2, 2, fan(10800000, 21600000)},
		{3, 3, fan(15051713, 17348287)}, {3, 4, fan(10800000, 17348287)}, {3, 5, fan(8488144, 13273164)}, {5, 3, fan(19126836, 23911856)},
		{10, 10, fan(15993721, 16406279)}, {1000, 1000, fan(16196885, 16203115)}, {unit, unit, fan(16199999, 16200001)},
		{unit - 1, unit, fan(16199999, 16200001)}, {unit, unit - 1, fan(16199999, 16200001)},
		{2074441, 25821, fan(32143268, 32143277)}, {300000000, 400000000, fan(13273163, 13273164)}, {123456789, 987654321, fan(2565005, 2565006)},
		{unit, 5, fan(32399999, 32400000)}, {unit, 1, fan(32399999, 32400000)}, {unit, 0, fan(32399999, 32400000)}, {5, 0, fan(32399999, 32400000)}, {1, 0, fan(32399999, 32400000)},
	} {
		wayIs(t, c.up, c.right, c.want)
		if c.right != 0 {
			wayIs(t, c.up, -c.right, aboutFrom(64800000, c.want))
		}
		if c.up != 0 {
			wayIs(t, -c.up, c.right, aboutFrom(0, c.want))
		}
		if c.up != 0 && c.right != 0 {
			wayIs(t, -c.up, -c.right, fan(c.want.Low-64800000, c.want.High-64800000))
		}
	}
}

func wayIs(t *testing.T, up int, right int, want impl.Fan) {
	t.Helper()
	if got, ok := impl.WayOf(up, right); !ok || got != want {
		t.Errorf("WayOf(%d, %d) is %v, %v, want %v", up, right, got, ok, want)
	}
}

// trueParts is a number of parts, with as many figures as trueSine has.
func trueParts(num int) *big.Int {
	return times(big.NewInt(int64(num)), truePart)
}

// isNotAbove leaves what rounding may do at most out of it.
func isNotAbove(x *big.Int, y *big.Int) bool {
	return x.Cmp(new(big.Int).Add(y, trueFault)) <= 0
}

func TestWhatIsTrueIsInTheFan(t *testing.T) {
	for _, num := range backNums() {
		f := mustSineBack(t, num)
		if f.Low < -quart || f.High > quart || !isNotAbove(trueSine(2*f.Low), trueParts(num)) || !isNotAbove(trueParts(num), trueSine(2*f.High)) {
			t.Errorf("SineBack(%d) is %v", num, f)
		}
		f = mustCosBack(t, num)
		if f.Low < 0 || f.High > half || !isNotAbove(trueParts(num), trueSine(2*f.Low+2*quart)) || !isNotAbove(trueSine(2*f.High+2*quart), trueParts(num)) {
			t.Errorf("CosBack(%d) is %v", num, f)
		}
	}
}

func TestPromise56TheSineAtBothEnds(t *testing.T) {
	for _, num := range backNums() {
		f := mustSineBack(t, num)
		if !impl.FanHas(f, f.Low) || f.Low < -quart || f.High > quart {
			t.Errorf("SineBack(%d) is %v", num, f)
		}
		low, high := mustSine(t, f.Low), mustSine(t, f.High)
		if low.High > num || high.Low < num {
			t.Errorf("SineBack(%d) is %v, where sines are %v and %v", num, f, low, high)
		}
		if impl.SureLess(point(num), low) == impl.SureYes || impl.SureLess(high, point(num)) == impl.SureYes {
			t.Errorf("SineBack(%d) is %v, but it surely is not there", num, f)
		}
	}
}

// One step further in it is not sure any more.
func TestPromise56NoWiderThanItMustBe(t *testing.T) {
	for _, num := range backNums() {
		f := mustSineBack(t, num)
		if in := f.Low + 1; in < quart && mustSine(t, in).High <= num {
			t.Errorf("SineBack(%d) is %v, but %d is surely not above", num, f, in)
		}
		if in := f.High - 1; in > -quart && mustSine(t, in).Low >= num {
			t.Errorf("SineBack(%d) is %v, but %d is surely not below", num, f, in)
		}
		if size := max(num, -num); size < 900000000 && f.High-f.Low > 2 {
			t.Errorf("SineBack(%d) is %v", num, f)
		}
	}
}

func TestPromise57AnAngleAndItsSineBack(t *testing.T) {
	for _, a := range quartAngles() {
		s := mustSine(t, a)
		if low := mustSineBack(t, s.Low); a < low.Low {
			t.Errorf("%d has the sine %v, but SineBack of its Low is %v", a, s, low)
		}
		if high := mustSineBack(t, s.High); a > high.High {
			t.Errorf("%d has the sine %v, but SineBack of its High is %v", a, s, high)
		}
		if s.Low == s.High && !impl.FanHas(mustSineBack(t, s.Low), a) {
			t.Errorf("%d has the sine %v, but is not in SineBack of it", a, s)
		}
	}
}

func TestPromise58TheContrary(t *testing.T) {
	for _, num := range backNums() {
		f, about := mustSineBack(t, num), mustSineBack(t, -num)
		if !fansMeet(f, aboutFrom(0, about)) {
			t.Errorf("SineBack(%d) is %v, of the contrary %v", num, f, about)
		}
	}
}

func TestPromise59AGreaterNumberDoesNotEndAhead(t *testing.T) {
	last := mustSineBack(t, -unit)
	further := 0
	for _, num := range backNums() {
		f := mustSineBack(t, num)
		if f.High < last.High || f.Low < last.Low {
			t.Errorf("SineBack(%d) is %v, of a lesser number %v", num, f, last)
		}
		if f.High > last.High {
			further++
		}
		last = f
	}
	if all := len(backNums()); further < all/2 {
		t.Errorf("of %d fans only %d end further than the last one", all, further)
	}
}

func TestPromise59OnePartMore(t *testing.T) {
	for _, from := range []int{-unit, -unit / 2, -100, unit/2 - 100, 707106681, 999826700, 999922450, unit - 200} {
		for num := from; num < from+200; num++ {
			if lesser, greater := mustSineBack(t, num), mustSineBack(t, num+1); greater.High < lesser.High || greater.Low < lesser.Low {
				t.Errorf("SineBack(%d) is %v, of one part more %v", num, lesser, greater)
			}
		}
	}
}

func TestPromise60CosBackIsWhatSineBackLacks(t *testing.T) {
	for _, num := range backNums() {
		f := mustCosBack(t, num)
		if want := aboutFrom(quart, mustSineBack(t, num)); f != want {
			t.Errorf("CosBack(%d) is %v, want %v", num, f, want)
		}
		if !impl.FanHas(f, f.Low) || f.Low < 0 || f.High > half {
			t.Errorf("CosBack(%d) is %v", num, f)
		}
		if low, high := mustCos(t, f.Low), mustCos(t, f.High); low.Low < num || high.High > num {
			t.Errorf("CosBack(%d) is %v, where cosines are %v and %v", num, f, low, high)
		}
	}
}

// trueTimes is so many of one number and so many of another one together.
func trueTimes(m int, x *big.Int, n int, y *big.Int) *big.Int {
	sum := times(big.NewInt(int64(m)), x)
	return sum.Add(sum, times(big.NewInt(int64(n)), y))
}

func TestPromise61ThePlaceLiesOnTheSideOfTheFan(t *testing.T) {
	// What rounding may do at most is done as often as a number is great.
	fault := times(big.NewInt(2*unit), trueFault)
	for _, p := range wayPlaces() {
		f := mustWay(t, p.up, p.right)
		if f.High-f.Low < 1 || f.High-f.Low > quart || f.Low < -half || f.High > half {
			t.Errorf("WayOf(%d, %d) is %v", p.up, p.right, f)
		}
		lowSine, lowCos := trueSine(2*f.Low), trueSine(2*f.Low+2*quart)
		highSine, highCos := trueSine(2*f.High), trueSine(2*f.High+2*quart)
		if aside := trueTimes(p.up, lowCos, -p.right, lowSine); aside.Add(aside, fault).Sign() < 0 {
			t.Errorf("WayOf(%d, %d) is %v, but it lies below it", p.up, p.right, f)
		}
		if aside := trueTimes(p.up, highCos, -p.right, highSine); aside.Sub(aside, fault).Sign() > 0 {
			t.Errorf("WayOf(%d, %d) is %v, but it lies above it", p.up, p.right, f)
		}
		// And not just opposite.
		if ahead := trueTimes(p.right, lowCos, p.up, lowSine); ahead.Add(ahead, fault).Sign() < 0 {
			t.Errorf("WayOf(%d, %d) is %v, but it lies behind its beginning", p.up, p.right, f)
		}
		if ahead := trueTimes(p.right, highCos, p.up, highSine); ahead.Add(ahead, fault).Sign() < 0 {
			t.Errorf("WayOf(%d, %d) is %v, but it lies behind its end", p.up, p.right, f)
		}
	}
}

func TestPromise61GreatNumbersHaveNarrowFans(t *testing.T) {
	for _, p := range wayPlaces() {
		if max(p.up, -p.up, p.right, -p.right) < unit/2-1 {
			continue
		}
		if f := mustWay(t, p.up, p.right); f.High-f.Low > 2 {
			t.Errorf("WayOf(%d, %d) is %v", p.up, p.right, f)
		}
	}
}

func TestPromise62TurnedUpsideDownOrAbout(t *testing.T) {
	for _, p := range wayPlaces() {
		f := mustWay(t, p.up, p.right)
		down, about := mustWay(t, -p.up, p.right), mustWay(t, p.up, -p.right)
		// 0 has no contrary: there a fan is its own, and only has something in common with itself turned.
		if p.up == 0 && !fansMeetButForTurns(down, aboutFrom(0, f)) || p.up != 0 && down != aboutFrom(0, f) {
			t.Errorf("WayOf(%d, %d) is %v, upside down %v", p.up, p.right, f, down)
		}
		// What is below 0 is turned about from half a turn below 0.
		from := half
		if p.up < 0 {
			from = -half
		}
		if p.right == 0 && !fansMeetButForTurns(about, aboutFrom(from, f)) || p.right != 0 && about != aboutFrom(from, f) {
			t.Errorf("WayOf(%d, %d) is %v, turned about %v", p.up, p.right, f, about)
		}
	}
}

func TestPromise63UpAndRightChanged(t *testing.T) {
	for _, p := range wayPlaces() {
		f, changed := mustWay(t, p.up, p.right), mustWay(t, p.right, p.up)
		if !fansMeetButForTurns(f, aboutFrom(quart, changed)) {
			t.Errorf("WayOf(%d, %d) is %v, changed %v", p.up, p.right, f, changed)
		}
	}
}

func TestPromise64TwiceAsFar(t *testing.T) {
	held := 0
	for _, p := range wayPlaces() {
		if max(p.up, -p.up, p.right, -p.right) > unit/2 {
			continue
		}
		held++
		f, twice := mustWay(t, p.up, p.right), mustWay(t, 2*p.up, 2*p.right)
		if !fansMeet(f, twice) {
			t.Errorf("WayOf(%d, %d) is %v, twice as far %v", p.up, p.right, f, twice)
		}
	}
	if held < 1000 {
		t.Errorf("only %d were held", held)
	}
}

func TestPromise65StraightWays(t *testing.T) {
	for _, num := range backNums() {
		if num <= 0 {
			continue
		}
		for _, c := range []struct{ up, right, a int }{
			{0, num, 0}, {num, num, eighth}, {num, 0, quart}, {num, -num, 3 * eighth},
			{0, -num, half}, {-num, -num, -3 * eighth}, {-num, 0, -quart}, {-num, num, -eighth},
		} {
			if f := mustWay(t, c.up, c.right); !impl.FanHas(f, c.a) {
				t.Errorf("WayOf(%d, %d) is %v, without %d", c.up, c.right, f, c.a)
			}
		}
	}
}

func TestPromise65NowhereHasNone(t *testing.T) {
	if f, ok := impl.WayOf(0, 0); ok || f != (impl.Fan{}) {
		t.Errorf("WayOf(0, 0) is %v, %v", f, ok)
	}
}

// fanEnds are at most a turn either way, ascending.
func fanEnds() []int {
	return []int{-turn, 1 - turn, -half, -quart, -101, -100, -99, -51, -50, -49, -1, 0, 1, 49, 50, 51, 99, 100, 101, 150, 250, eighth, quart, half, turn - 1, turn}
}

// okFans are all fans with two of these ends, fans of one angle alone among them.
func okFans() []impl.Fan {
	var out []impl.Fan
	for _, s := range spansOf(fanEnds()) {
		out = append(out, impl.Fan(s))
	}
	return out
}

// noFans have High below Low, or an end beyond a turn.
func noFans() []impl.Fan {
	out := []impl.Fan{
		fan(1, 0), fan(0, -1), fan(2, 1), fan(quart, -quart), fan(turn, -turn), fan(turn, turn-1), fan(1-turn, -turn),
		fan(0, turn+1), fan(-turn-1, 0), fan(-turn, turn+1), fan(-turn-1, turn), fan(-turn-1, turn+1), fan(turn+1, 0), fan(0, -turn-1),
		fan(math.MinInt, math.MaxInt), fan(math.MaxInt, math.MinInt), fan(math.MinInt, 0), fan(0, math.MaxInt), fan(math.MaxInt, 0), fan(0, math.MinInt),
	}
	for _, a := range beyondATurn() {
		out = append(out, fan(a, a), fan(min(a, 0), max(a, 0)))
	}
	return out
}

func TestPromise66WhatIsInAFan(t *testing.T) {
	for _, f := range okFans() {
		if !impl.FanHas(f, f.Low) || !impl.FanHas(f, f.High) || !impl.FanHas(f, f.Low+(f.High-f.Low)/2) {
			t.Errorf("%v has not both its ends, or not its middle", f)
		}
		if impl.FanHas(f, f.Low-1) || impl.FanHas(f, f.High+1) {
			t.Errorf("%v has more in it than between its ends", f)
		}
		for _, a := range append(beyondATurn(), fanEnds()...) {
			if got, want := impl.FanHas(f, a), f.Low <= a && a <= f.High; got != want {
				t.Errorf("FanHas(%v, %d) is %v", f, a, got)
			}
		}
	}
}

func TestPromise66NothingIsInWhatIsNoFan(t *testing.T) {
	for _, f := range noFans() {
		for _, a := range append(append(beyondATurn(), fanEnds()...), f.Low, f.High) {
			if impl.FanHas(f, a) {
				t.Errorf("FanHas(%v, %d) is true", f, a)
			}
		}
	}
}

// Two fans whose ends touch have just that end in common.
func TestPromise66EndsThatTouch(t *testing.T) {
	for _, end := range fanEnds()[1 : len(fanEnds())-1] {
		lower, upper := fan(-turn, end), fan(end, turn)
		for a := end - 2; a <= end+2; a++ {
			if impl.FanHas(lower, a) != (a <= end && a >= -turn) || impl.FanHas(upper, a) != (a >= end && a <= turn) {
				t.Errorf("%d is not where it is to be, of %v and %v", a, lower, upper)
			}
		}
	}
}

func TestFanRoundByHand(t *testing.T) {
	for _, c := range []struct {
		f                    impl.Fan
		parts                int
		down, up, zero, even int
	}{
		{fan(0, 0), 1, 0, 0, 0, 0},
		{fan(0, 0), turn, 0, 0, 0, 0},
		{fan(7, 7), 1, 7, 7, 7, 7},
		{fan(-7, -7), 1, -7, -7, -7, -7},
		{fan(0, 1), 1, unsure, unsure, unsure, unsure},
		{fan(149, 151), 100, 1, 2, 1, unsure},
		{fan(150, 151), 100, 1, 2, 1, 2},
		{fan(149, 150), 100, 1, 2, 1, unsure},
		{fan(150, 250), 100, unsure, unsure, unsure, 2},
		{fan(150, 251), 100, unsure, unsure, unsure, unsure},
		{fan(250, 250), 100, 2, 3, 2, 2},
		{fan(-250, -150), 100, unsure, unsure, unsure, -2},
		{fan(-150, -150), 100, -2, -1, -1, -2},
		{fan(-151, -149), 100, -2, -1, -1, unsure},
		{fan(-50, 50), 100, unsure, unsure, 0, 0},
		{fan(-99, 99), 100, unsure, unsure, 0, unsure},
		{fan(0, 99), 100, 0, unsure, 0, unsure},
		{fan(0, 100), 100, unsure, unsure, unsure, unsure},
		{fan(1, 100), 100, unsure, 1, unsure, unsure},
		{fan(turn, turn), turn, 1, 1, 1, 1},
		{fan(-turn, -turn), turn, -1, -1, -1, -1},
		{fan(turn, turn), 1, turn, turn, turn, turn},
		{fan(-turn, -turn), 1, -turn, -turn, -turn, -turn},
		{fan(0, turn), turn, unsure, unsure, unsure, unsure},
		{fan(0, turn-1), turn, 0, unsure, 0, unsure},
		{fan(1, turn), turn, unsure, 1, unsure, unsure},
		{fan(-half, half), turn, unsure, unsure, 0, 0},
		{fan(half, half), turn, 0, 1, 0, 0},
		{fan(half, half+1), turn, 0, 1, 0, unsure},
		{fan(half+1, turn), turn, unsure, 1, unsure, 1},
		{fan(-turn, turn), turn, unsure, unsure, unsure, unsure},
		{fan(10799999, 10800001), impl.AngDegree, unsure, unsure, unsure, 30},
		{fan(10800000, 10800001), impl.AngDegree, 30, unsure, 30, 30},
	} {
		for i, want := range []int{c.down, c.up, c.zero, c.even} {
			sure := want != unsure
			if !sure {
				want = 0
			}
			if n, ok := impl.FanRound(c.f, c.parts, roundWays()[i]); n != want || ok != sure {
				t.Errorf("FanRound(%v, %d, %d) is %d, %v, want %d, %v", c.f, c.parts, roundWays()[i], n, ok, want, sure)
			}
		}
	}
}

// fanParts are how many parts are rounded to one: both limits, odd and even ones, and those of angles.
func fanParts() []int {
	return []int{1, 2, 3, 7, impl.AngSecond, impl.AngSecond + 1, impl.AngMinute, impl.AngDegree, eighth, quart, half, half + 1, turn - 1, turn}
}

// narrowFans have their ends at whole and half ones of these parts, or up to two parts to either side.
func narrowFans(parts int) []impl.Fan {
	var out []impl.Fan
	for _, s := range narrowSpans(parts) {
		if s.Low >= -turn && s.High <= turn {
			out = append(out, impl.Fan(s))
		}
	}
	return out
}

func TestPromise67EachAngleIsRoundedToWhatIsTold(t *testing.T) {
	toldOf, notToldOf := map[int]int{}, map[int]int{}
	for _, parts := range fanParts() {
		for _, f := range append(narrowFans(parts), okFans()...) {
			for _, way := range roundWays() {
				if fanRoundHolds(t, f, parts, way) {
					toldOf[way]++
				} else {
					notToldOf[way]++
				}
			}
		}
	}
	for _, way := range roundWays() {
		if toldOf[way] < 1000 || notToldOf[way] < 1000 {
			t.Errorf("only %d fans were told, %d not, rounded by %d", toldOf[way], notToldOf[way], way)
		}
	}
}

// fanRoundHolds holds what is told against angles of the fan, whole or not, and says whether it is told.
func fanRoundHolds(t *testing.T, f impl.Fan, parts int, way int) bool {
	t.Helper()
	n, ok := impl.FanRound(f, parts, way)
	low, high := exactly(big.NewRat(int64(f.Low), int64(parts)), way), exactly(big.NewRat(int64(f.High), int64(parts)), way)
	if ok != (low == high) || !ok && n != 0 {
		t.Errorf("FanRound(%v, %d, %d) is %d, %v, its ends are rounded to %d and %d", f, parts, way, n, ok, low, high)
	}
	if !ok {
		return false
	}
	for _, x := range withFractions(impl.Span(f)) {
		if want := exactly(new(big.Rat).Quo(x, whole(parts)), way); n != want {
			t.Errorf("FanRound(%v, %d, %d) is %d, but %v is rounded to %d", f, parts, way, n, x, want)
		}
	}
	return true
}

func TestPromise67EachWholeAngleBetweenToo(t *testing.T) {
	for parts := 1; parts <= 9; parts++ {
		for low := -21; low <= 21; low++ {
			for high := low; high <= 21; high++ {
				for _, way := range roundWays() {
					n, ok := impl.FanRound(fan(low, high), parts, way)
					for a := low; ok && a <= high; a++ {
						if want := mustRound(t, a, parts, way); n != want {
							t.Errorf("FanRound(%d to %d, %d, %d) is %d, but %d is rounded to %d", low, high, parts, way, n, a, want)
						}
					}
				}
			}
		}
	}
}

// What is told of a fan that was reckoned is what the true angle is rounded to.
func TestPromise67FansThatWereReckoned(t *testing.T) {
	told := 0
	for _, a := range quartAngles() {
		s := mustSine(t, a)
		f := fan(mustSineBack(t, s.Low).Low, mustSineBack(t, s.High).High)
		for _, parts := range []int{1, impl.AngSecond, impl.AngMinute} {
			for _, way := range roundWays() {
				n, ok := impl.FanRound(f, parts, way)
				if ok && n != mustRound(t, a, parts, way) {
					t.Errorf("%d has the sine %v, so it is in %v, but that is rounded to %d", a, s, f, n)
				}
				if ok {
					told++
				}
			}
		}
	}
	if told < 500 {
		t.Errorf("only %d were told", told)
	}
}

func beyondOne() []int {
	return []int{
		unit + 1, -unit - 1, unit + 2, -unit - 2, spanMax, -spanMax, 2 * unit, -2 * unit, 1 << 32, -1 << 32, 1<<32 + 1, numMax, -numMax,
		math.MaxInt / 2, math.MinInt / 2, math.MaxInt - 1, math.MaxInt, math.MinInt + 1, math.MinInt,
	}
}

func TestBackBeyondOne(t *testing.T) {
	for name, of := range map[string]backFunc{"SineBack": impl.SineBack, "CosBack": impl.CosBack} {
		for _, num := range beyondOne() {
			if f, ok := of(num); ok || f != (impl.Fan{}) {
				t.Errorf("%s(%d) is %v, %v", name, num, f, ok)
			}
		}
	}
}

func TestWayBeyondOne(t *testing.T) {
	for _, wrong := range beyondOne() {
		for _, other := range append(beyondOne(), wayNums()...) {
			if f, ok := impl.WayOf(wrong, other); ok || f != (impl.Fan{}) {
				t.Errorf("WayOf(%d, %d) is %v, %v", wrong, other, f, ok)
			}
			if f, ok := impl.WayOf(other, wrong); ok || f != (impl.Fan{}) {
				t.Errorf("WayOf(%d, %d) is %v, %v", other, wrong, f, ok)
			}
		}
	}
}

func fanNotRounded(t *testing.T, f impl.Fan, parts int, way int) {
	t.Helper()
	if n, ok := impl.FanRound(f, parts, way); ok || n != 0 {
		t.Errorf("FanRound(%v, %d, %d) is %d, %v", f, parts, way, n, ok)
	}
}

// wrongFanParts have those in them that a span could be rounded to, but not a fan.
func wrongFanParts() []int {
	return append(wrongParts(), turn+1, turn+2, 2*turn, unit/2, unit-1, unit, -turn, -turn-1)
}

func TestFanRoundOfFansThatAreNone(t *testing.T) {
	for _, no := range noFans() {
		for _, parts := range append(wrongFanParts(), fanParts()...) {
			for _, way := range append(wrongWays(), roundWays()...) {
				fanNotRounded(t, no, parts, way)
			}
		}
	}
}

func TestFanRoundToPartsThatAreNone(t *testing.T) {
	for _, f := range okFans() {
		for _, parts := range wrongFanParts() {
			for _, way := range append(wrongWays(), roundWays()...) {
				fanNotRounded(t, f, parts, way)
			}
		}
	}
}

func TestFanRoundByAWayThatIsNone(t *testing.T) {
	for _, f := range okFans() {
		for _, parts := range fanParts() {
			for _, way := range wrongWays() {
				fanNotRounded(t, f, parts, way)
			}
		}
	}
}
