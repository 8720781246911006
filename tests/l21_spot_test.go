package tests

import (
	"math"
	"math/big"
	"testing"

	"loop.example/alidade/impl"
)

func spot(up int, around int) impl.Spot {
	return impl.Spot{Up: up, Around: around}
}

// spotUps are at most a quarter either way: the edges, what lies about them, and ordinary ones below the middle and above it.
func spotUps() []int {
	return []int{
		-quart, 1 - quart, -quart + 1000, -twelfth * 2, -eighth, -12345678, -twelfth, -100, -1,
		0, 1, 2, 100, 4545678, twelfth, eighth, 21234567, quart - 1000, quart - 1, quart,
	}
}

// spotArounds are those that a place may have, in each quarter.
func spotArounds() []int {
	return []int{0, 1, 4545678, twelfth, quart, 47110815, half - 1, half, half + 1, 78901234, 3 * quart, 112233445, turn - 1}
}

// okSpots are all places of one of each.
func okSpots() []impl.Spot {
	var out []impl.Spot
	for _, up := range spotUps() {
		for _, around := range spotArounds() {
			out = append(out, spot(up, around))
		}
	}
	return out
}

// someSpots are few enough to take two of them each way, and to look at each as long as halving takes.
func someSpots() []impl.Spot {
	var out []impl.Spot
	for i, p := range okSpots() {
		if i%7 == 0 {
			out = append(out, p)
		}
	}
	return append(out, spot(quart, 0), spot(quart, half), spot(-quart, 0), spot(-quart, turn-1), spot(0, 0), spot(0, half), spot(0, turn-1))
}

// fewSpots are few enough to take three of them each way.
func fewSpots() []impl.Spot {
	return []impl.Spot{
		spot(0, 0), spot(0, 1), spot(1, 0), spot(0, turn-1), spot(0, half), spot(0, half-1), spot(-1, half), spot(0, quart), spot(0, 2*twelfth),
		spot(quart, 0), spot(quart, half), spot(quart-1, 5), spot(-quart, 0), spot(-quart, turn-1), spot(1-quart, half+5),
		spot(eighth, 0), spot(eighth, half), spot(-eighth, half), spot(-eighth, half+1), spot(2*twelfth, quart), spot(-2*twelfth, 3*quart), spot(2*twelfth, 0),
		spot(12345678, 23456789), spot(-4545678, 98765432), spot(-21234567, 112233445),
	}
}

// beside are a place and those one part up, down, or around from it, the end itself among them.
func beside(p impl.Spot) []impl.Spot {
	var out []impl.Spot
	for up := p.Up - 1; up <= p.Up+1; up++ {
		for aside := turn - 1; aside <= turn+1; aside++ {
			if up >= -quart && up <= quart {
				out = append(out, spot(up, (p.Around+aside)%turn))
			}
		}
	}
	return out
}

// opposite is by its own rule, not by SpotFar.
func opposite(p impl.Spot) impl.Spot {
	if p.Around < half {
		return spot(-p.Up, p.Around+half)
	}
	return spot(-p.Up, p.Around-half)
}

// areSame is by its own rule, not by SpotSame.
func areSame(p impl.Spot, q impl.Spot) bool {
	if p.Up == quart || p.Up == -quart {
		return q.Up == p.Up
	}
	return p == q
}

// noSpots are beyond an edge, by one or by far, in either part or in both.
func noSpots() []impl.Spot {
	wrongUps := append([]int{quart + 1, -quart - 1, quart + 2, half, -half, turn, -turn}, beyondATurn()...)
	wrongArounds := append([]int{-1, turn, -2, -half, -turn, turn + 1, 1 - turn}, beyondATurn()...)
	var out []impl.Spot
	for _, up := range wrongUps {
		out = append(out, spot(up, 0), spot(up, half), spot(up, turn-1), spot(up, -1), spot(up, turn), spot(up, up))
	}
	for _, around := range wrongArounds {
		out = append(out, spot(0, around), spot(quart, around), spot(-quart, around), spot(12345678, around), spot(quart+1, around), spot(-quart-1, around))
	}
	return append(out, spot(math.MinInt, math.MaxInt), spot(math.MaxInt, math.MinInt))
}

// fewNoSpots are each edge by one, and the least and the greatest int.
func fewNoSpots() []impl.Spot {
	return []impl.Spot{
		spot(quart+1, 0), spot(-quart-1, 0), spot(0, -1), spot(0, turn), spot(quart, turn), spot(-quart, -1), spot(quart+1, turn), spot(-quart-1, -1),
		spot(math.MinInt, 0), spot(math.MaxInt, 0), spot(0, math.MinInt), spot(0, math.MaxInt), spot(math.MinInt, math.MinInt), spot(math.MaxInt, math.MaxInt),
	}
}

func eachSpotPair(spots []impl.Spot, do func(p impl.Spot, q impl.Spot)) {
	for _, p := range spots {
		for _, q := range spots {
			do(p, q)
		}
	}
}

// eachCase are two places each way, and of each place those that are, but for a part at most, the same, or opposite.
func eachCase(do func(p impl.Spot, q impl.Spot)) {
	eachSpotPair(someSpots(), do)
	for _, p := range okSpots() {
		for _, q := range append(beside(p), beside(opposite(p))...) {
			do(p, q)
		}
	}
}

func mustFar(t *testing.T, p impl.Spot) impl.Spot {
	t.Helper()
	far, ok := impl.SpotFar(p)
	if !ok {
		t.Fatalf("SpotFar(%v) is false", p)
	}
	return far
}

func mustSquare(t *testing.T, p impl.Spot, q impl.Spot) impl.Span {
	t.Helper()
	s, ok := impl.SpotSquare(p, q)
	if !ok {
		t.Fatalf("SpotSquare(%v, %v) is false", p, q)
	}
	return s
}

func mustDist(t *testing.T, p impl.Spot, q impl.Spot) impl.Fan {
	t.Helper()
	f, ok := impl.SpotDist(p, q)
	if !ok {
		t.Fatalf("SpotDist(%v, %v) is false", p, q)
	}
	return f
}

// The chapter's words, once more, by numbers of any size.

func clippedInWords(s impl.Span) impl.Span {
	out := s
	for _, end := range []*int{&out.Low, &out.High} {
		if *end < 0 {
			*end = 0
		} else if *end > unit {
			*end = unit
		}
	}
	return out
}

func mulInWords(s impl.Span, u impl.Span) impl.Span {
	var parts []*big.Rat
	for _, x := range ends(s) {
		for _, y := range ends(u) {
			parts = append(parts, new(big.Rat).Quo(new(big.Rat).Mul(whole(x), whole(y)), whole(unit)))
		}
	}
	return around(parts...)
}

// sumInWords is SpotSquare ahead of its last clipping.
func (k sinesKept) sumInWords(p impl.Spot, q impl.Spot) impl.Span {
	first, second := k.halves(q.Up-p.Up), k.halves(q.Around-p.Around)
	first, second = mulInWords(first, first), mulInWords(second, second)
	wide := mulInWords(clippedInWords(k.cos(p.Up)), clippedInWords(k.cos(q.Up)))
	wide = mulInWords(clippedInWords(wide), clippedInWords(second))
	first = clippedInWords(first)
	return span(wide.Low+first.Low, wide.High+first.High)
}

func rootInWords(s impl.Span) impl.Span {
	one := big.NewInt(unit)
	low := new(big.Int).Sqrt(times(one, big.NewInt(int64(s.Low))))
	square := times(one, big.NewInt(int64(s.High)))
	high := new(big.Int).Sqrt(square)
	if times(high, high).Cmp(square) < 0 {
		high.Add(high, big.NewInt(1))
	}
	return span(int(low.Int64()), int(high.Int64()))
}

func (k sinesKept) dist(square impl.Span) impl.Fan {
	root := rootInWords(square)
	low, high := k.sineBack(min(root.Low, unit)), k.sineBack(min(root.High, unit))
	return fan(max(2*low.Low, 0), 2*high.High)
}

func TestSquareJustAsTheWordsSay(t *testing.T) {
	kept := sinesKept{}
	hold := func(p impl.Spot, q impl.Spot) {
		if got, want := mustSquare(t, p, q), clippedInWords(kept.sumInWords(p, q)); got != want {
			t.Errorf("SpotSquare(%v, %v) is %v, want %v", p, q, got, want)
		}
	}
	eachSpotPair(okSpots(), hold)
	eachCase(hold)
}

// Rounding leads beyond one at places that are opposite, or nearly so; that is taken away.
func TestSquareIsClipped(t *testing.T) {
	kept := sinesKept{}
	clipped := 0
	for _, p := range okSpots() {
		for _, q := range beside(opposite(p)) {
			sum := kept.sumInWords(p, q)
			if sum.High <= unit {
				continue
			}
			clipped++
			if got := mustSquare(t, p, q); got.High != unit || got.Low != min(sum.Low, unit) {
				t.Errorf("SpotSquare(%v, %v) is %v, but %v is to be clipped", p, q, got, sum)
			}
			if f := mustDist(t, p, q); f.High != half {
				t.Errorf("SpotDist(%v, %v) is %v, but half a turn is not told", p, q, f)
			}
		}
	}
	if clipped < 500 {
		t.Errorf("only %d were clipped", clipped)
	}
}

func TestDistJustAsTheWordsSay(t *testing.T) {
	kept := sinesKept{}
	// Squares come again and again, and fans are of squares alone.
	fans := map[impl.Span]impl.Fan{}
	eachCase(func(p impl.Spot, q impl.Spot) {
		square := clippedInWords(kept.sumInWords(p, q))
		want, known := fans[square]
		if !known {
			want = kept.dist(square)
			fans[square] = want
		}
		if got := mustDist(t, p, q); got != want {
			t.Errorf("SpotDist(%v, %v) is %v, want %v", p, q, got, want)
		}
	})
	if len(fans) < 500 {
		t.Errorf("only %d squares were looked at", len(fans))
	}
}

func TestSpotsByHand(t *testing.T) {
	for _, c := range []struct {
		p, q   impl.Spot
		square impl.Span
		dist   impl.Fan
	}{
		{spot(0, 0), spot(0, 0), point(0), fan(0, 0)},
		{spot(0, 0), spot(0, 1), span(0, 1), fan(0, 1306)},
		{spot(0, 129599999), spot(0, 0), span(0, 1), fan(0, 1306)},
		{spot(0, 0), spot(1, 0), span(0, 1), fan(0, 1306)},
		{spot(-1, 0), spot(1, 0), span(0, 1), fan(0, 1306)},
		{spot(1, 0), spot(0, 1), span(0, 2), fan(0, 1846)},
		{spot(3600000, 7200000), spot(18000000, 7200000), span(116977776, 116977781), fan(14399998, 14400002)},
		{spot(0, 126000000), spot(0, 3600000), span(30153689, 30153691), fan(7199998, 7200002)},
		{spot(0, 0), spot(0, 21600000), point(250000000), fan(21600000, 21600000)},
		{spot(0, 0), spot(21600000, 0), point(250000000), fan(21600000, 21600000)},
		{spot(10800000, 0), spot(-10800000, 0), point(250000000), fan(21600000, 21600000)},
		{spot(32400000, 0), spot(10800000, 27720000), point(250000000), fan(21600000, 21600000)},
		{spot(0, 0), spot(0, 32400000), span(499999994, 500000006), fan(32399998, 32400002)},
		{spot(0, 0), spot(32400000, 0), span(499999994, 500000006), fan(32399998, 32400002)},
		{spot(16200000, 0), spot(16200000, 64800000), span(499999994, 500000006), fan(32399998, 32400002)},
		{spot(32400000, 0), spot(32400000, 64800000), point(0), fan(0, 0)},
		{spot(32400000, 0), spot(32399999, 0), span(0, 1), fan(0, 1306)},
		{spot(32399999, 0), spot(32399999, 64800000), span(0, 1), fan(0, 1306)},
		{spot(32400000, 0), spot(-32400000, 0), point(1000000000), fan(64799998, 64800000)},
		{spot(32400000, 5), spot(-32400000, 77), point(1000000000), fan(64799998, 64800000)},
		{spot(0, 0), spot(0, 64800000), point(1000000000), fan(64799998, 64800000)},
		{spot(0, 0), spot(0, 64799999), span(999999998, 1000000000), fan(64796804, 64800000)},
		{spot(0, 0), spot(1, 64800000), span(999999999, 1000000000), fan(64797390, 64800000)},
		{spot(16200000, 0), spot(-16200000, 64800000), span(999999988, 1000000000), fan(64794780, 64800000)},
		{spot(21600000, 0), spot(-21600000, 64800000), span(999999995, 1000000000), fan(64796310, 64800000)},
		{spot(3600000, 7200000), spot(-3600000, 72000000), span(999999993, 1000000000), fan(64795874, 64800000)},
		{spot(3600000, 7200000), spot(-3600000, 72000001), span(999999991, 1000000000), fan(64795480, 64800000)},
		{spot(32399000, 0), spot(-32399001, 64800000), span(999999996, 1000000000), fan(64796310, 64800000)},
		{spot(12345678, 23456789), spot(-4545678, 98765432), span(913481878, 913481910), fan(52483712, 52483718)},
		{spot(18916392, 4545678), spot(17446896, 831600), span(4528161, 4528165), fan(2778076, 2778080)},
		{spot(-12198960, 54433440), spot(14525640, 50301000), span(370481199, 370481211), fan(26995332, 26995334)},
	} {
		spotsAre(t, c.p, c.q, c.square, c.dist)
		spotsAre(t, c.q, c.p, c.square, c.dist)
		spotsAre(t, spot(-c.p.Up, c.p.Around), spot(-c.q.Up, c.q.Around), c.square, c.dist)
		spotsAre(t, opposite(c.p), opposite(c.q), c.square, c.dist)
	}
}

func spotsAre(t *testing.T, p impl.Spot, q impl.Spot, square impl.Span, dist impl.Fan) {
	t.Helper()
	if got, ok := impl.SpotSquare(p, q); !ok || got != square {
		t.Errorf("SpotSquare(%v, %v) is %v, %v, want %v", p, q, got, ok, square)
	}
	if got, ok := impl.SpotDist(p, q); !ok || got != dist {
		t.Errorf("SpotDist(%v, %v) is %v, %v, want %v", p, q, got, ok, dist)
	}
}

// What is true, by far more figures than a span has.

func trueProduct(x *big.Int, y *big.Int) *big.Int {
	product := times(x, y)
	return product.Quo(product, trueOne)
}

func trueSquare(p impl.Spot, q impl.Spot) *big.Int {
	up, aside := trueSine(q.Up-p.Up), trueSine(q.Around-p.Around)
	wide := trueProduct(trueSine(2*p.Up+2*quart), trueSine(2*q.Up+2*quart))
	wide = trueProduct(wide, trueProduct(aside, aside))
	return wide.Add(wide, trueProduct(up, up))
}

func TestWhatIsTrueIsBetweenPlaces(t *testing.T) {
	hold := func(p impl.Spot, q impl.Spot) {
		square := trueSquare(p, q)
		if s := mustSquare(t, p, q); !surrounds(s, square, truePart) {
			t.Errorf("SpotSquare(%v, %v) is %v, but %v is true", p, q, s, square)
		}
		f := mustDist(t, p, q)
		// Half an angle is as many halves as it has parts.
		low, high := trueSine(f.Low), trueSine(f.High)
		if !isNotAbove(trueProduct(low, low), square) || !isNotAbove(square, trueProduct(high, high)) {
			t.Errorf("SpotDist(%v, %v) is %v, but its square is %v", p, q, f, square)
		}
	}
	eachSpotPair(fewSpots(), hold)
	for _, p := range someSpots() {
		for _, q := range fewSpots() {
			hold(p, q)
		}
		for _, q := range append(beside(p), beside(opposite(p))...) {
			hold(p, q)
		}
	}
}

func TestWhatIsAPlace(t *testing.T) {
	for _, p := range okSpots() {
		if !impl.SpotOk(p) {
			t.Errorf("SpotOk(%v) is false", p)
		}
	}
	for _, p := range noSpots() {
		if impl.SpotOk(p) {
			t.Errorf("SpotOk(%v) is true", p)
		}
	}
}

func TestPromise68PlacesThatAreTheSame(t *testing.T) {
	same := 0
	hold := func(p impl.Spot, q impl.Spot) {
		want := areSame(p, q)
		if got, back := impl.SpotSame(p, q), impl.SpotSame(q, p); got != want || back != want {
			t.Errorf("SpotSame of %v and %v is %v, the other way %v", p, q, got, back)
		}
		if !want {
			return
		}
		same++
		if f := mustDist(t, p, q); f != fan(0, 0) {
			t.Errorf("SpotDist(%v, %v) is %v, but they are the same", p, q, f)
		}
	}
	eachSpotPair(okSpots(), hold)
	eachCase(hold)
	if same < 500 {
		t.Errorf("only %d were the same", same)
	}
}

func TestPromise68TheEndsAllAround(t *testing.T) {
	for _, up := range []int{quart, -quart} {
		for _, around := range spotArounds() {
			for _, other := range spotArounds() {
				if !impl.SpotSame(spot(up, around), spot(up, other)) || impl.SpotSame(spot(up, around), spot(-up, other)) {
					t.Errorf("the end %d is not the same at %d and %d, or is the other end", up, around, other)
				}
				near := up - up/quart
				if got := impl.SpotSame(spot(near, around), spot(near, other)); got != (around == other) {
					t.Errorf("beside the end %d, at %d and %d: %v", up, around, other, got)
				}
			}
		}
	}
}

func TestPromise69OppositeOfOpposite(t *testing.T) {
	for _, p := range okSpots() {
		far := mustFar(t, p)
		if far != opposite(p) || !impl.SpotOk(far) {
			t.Errorf("SpotFar(%v) is %v, want %v", p, far, opposite(p))
		}
		if back := mustFar(t, far); back != p {
			t.Errorf("SpotFar of SpotFar(%v) is %v", p, back)
		}
		if impl.SpotSame(p, far) {
			t.Errorf("%v and %v, which is opposite, are the same", p, far)
		}
		if f := mustDist(t, p, far); !impl.FanHas(f, half) {
			t.Errorf("SpotDist(%v, %v) is %v, but that is opposite", p, far, f)
		}
	}
}

func TestFarByHand(t *testing.T) {
	for _, c := range []struct{ p, far impl.Spot }{
		{spot(0, 0), spot(0, 64800000)},
		{spot(0, 1), spot(0, 64800001)},
		{spot(1, 64799999), spot(-1, 129599999)},
		{spot(1, 64800000), spot(-1, 0)},
		{spot(-1, 64800001), spot(1, 1)},
		{spot(-1, 129599999), spot(1, 64799999)},
		{spot(32400000, 0), spot(-32400000, 64800000)},
		{spot(-32400000, 129599999), spot(32400000, 64799999)},
		{spot(3600000, 7200000), spot(-3600000, 72000000)},
		{spot(-12345678, 98765432), spot(12345678, 33965432)},
	} {
		if far, ok := impl.SpotFar(c.p); !ok || far != c.far {
			t.Errorf("SpotFar(%v) is %v, %v, want %v", c.p, far, ok, c.far)
		}
	}
}

func TestPromise70TheSquareEitherWay(t *testing.T) {
	hold := func(p impl.Spot, q impl.Spot) {
		s, back := mustSquare(t, p, q), mustSquare(t, q, p)
		if s != back {
			t.Errorf("SpotSquare of %v and %v is %v, the other way %v", p, q, s, back)
		}
		if s.Low < 0 || s.Low > s.High || s.High > unit {
			t.Errorf("SpotSquare(%v, %v) is %v", p, q, s)
		}
		if areSame(p, q) && s != point(0) {
			t.Errorf("SpotSquare(%v, %v) is %v, but they are the same", p, q, s)
		}
		if !areSame(p, q) && s.High == 0 {
			t.Errorf("SpotSquare(%v, %v) is 0, but they are not the same", p, q)
		}
	}
	eachSpotPair(okSpots(), hold)
	eachCase(hold)
}

func TestPromise71OneIsInBothSquares(t *testing.T) {
	hold := func(p impl.Spot, q impl.Spot) {
		s, far := mustSquare(t, p, q), mustSquare(t, p, opposite(q))
		if sum := mustOp(t, "SpanAdd", impl.SpanAdd, s, far); !impl.SpanHas(sum, 1, 1) {
			t.Errorf("SpotSquare(%v, %v) is %v, and to the opposite place %v", p, q, s, far)
		}
	}
	eachSpotPair(okSpots(), hold)
	eachCase(hold)
}

// turnedAround is a place as much further around.
func turnedAround(p impl.Spot, by int) impl.Spot {
	return spot(p.Up, (p.Around+by)%turn)
}

func TestPromise72TurnedAroundOrUpsideDown(t *testing.T) {
	eachCase(func(p impl.Spot, q impl.Spot) {
		s := mustSquare(t, p, q)
		for _, by := range []int{1, 4545678, quart, half, 98765431, turn - 1} {
			if turned := mustSquare(t, turnedAround(p, by), turnedAround(q, by)); turned != s {
				t.Errorf("SpotSquare(%v, %v) is %v, turned around by %d it is %v", p, q, s, by, turned)
			}
		}
		if down := mustSquare(t, spot(-p.Up, p.Around), spot(-q.Up, q.Around)); down != s {
			t.Errorf("SpotSquare(%v, %v) is %v, upside down %v", p, q, s, down)
		}
	})
}

func TestPromise73TheAngleEitherWay(t *testing.T) {
	eachCase(func(p impl.Spot, q impl.Spot) {
		f, back := mustDist(t, p, q), mustDist(t, q, p)
		if f != back {
			t.Errorf("SpotDist of %v and %v is %v, the other way %v", p, q, f, back)
		}
		if f.Low < 0 || f.Low > f.High || f.High > half {
			t.Errorf("SpotDist(%v, %v) is %v", p, q, f)
		}
	})
}

func distHas(t *testing.T, p impl.Spot, q impl.Spot, a int) {
	t.Helper()
	if f := mustDist(t, p, q); !impl.FanHas(f, a) {
		t.Errorf("SpotDist(%v, %v) is %v, without %d", p, q, f, a)
	}
}

func TestPromise74StraightUp(t *testing.T) {
	for _, p := range someSpots() {
		for _, up := range append(quartAngles(), spotUps()...) {
			if up%5 == 0 || up == p.Up+1 || up == p.Up-1 {
				distHas(t, p, spot(up, p.Around), max(up-p.Up, p.Up-up))
			}
		}
	}
}

func TestPromise74ToTheEnd(t *testing.T) {
	for _, p := range okSpots() {
		for _, around := range spotArounds() {
			distHas(t, p, spot(quart, around), quart-p.Up)
			distHas(t, spot(-quart, around), p, quart+p.Up)
		}
	}
	for _, up := range quartAngles() {
		distHas(t, spot(up, 12345678), spot(quart, 98765432), quart-up)
		distHas(t, spot(-quart, 98765432), spot(up, 12345678), quart+up)
	}
}

// And straight up over the end, down on the other side.
func TestPromise74OverTheEnd(t *testing.T) {
	for _, up := range spotUps() {
		for _, other := range spotUps() {
			for _, around := range spotArounds() {
				if sum := up + other; sum >= 0 {
					distHas(t, spot(up, around), opposite(spot(-other, around)), half-sum)
				} else {
					distHas(t, spot(up, around), opposite(spot(-other, around)), half+sum)
				}
			}
		}
	}
}

func TestPromise75AroundTheMiddle(t *testing.T) {
	for _, around := range spotArounds() {
		for _, a := range turnAngles() {
			other := (around + a + turn) % turn
			d := mustDiff(t, around, other)
			distHas(t, spot(0, around), spot(0, other), max(d, -d))
		}
	}
}

func TestPromise76HalfATurnIsInBothAngles(t *testing.T) {
	eachCase(func(p impl.Spot, q impl.Spot) {
		f, far := mustDist(t, p, q), mustDist(t, p, opposite(q))
		if f.Low+far.Low > half || f.High+far.High < half {
			t.Errorf("SpotDist(%v, %v) is %v, and to the opposite place %v", p, q, f, far)
		}
	})
}

func TestPromise77ByAThirdPlaceItIsNotNearer(t *testing.T) {
	fans := map[[2]impl.Spot]impl.Fan{}
	eachSpotPair(fewSpots(), func(p impl.Spot, q impl.Spot) { fans[[2]impl.Spot{p, q}] = mustDist(t, p, q) })
	for _, by := range fewSpots() {
		eachSpotPair(fewSpots(), func(p impl.Spot, q impl.Spot) {
			straight, first, second := fans[[2]impl.Spot{p, q}], fans[[2]impl.Spot{p, by}], fans[[2]impl.Spot{by, q}]
			if first.High+second.High < straight.Low {
				t.Errorf("from %v to %v it is %v, but by %v it is %v and %v", p, q, straight, by, first, second)
			}
		})
	}
}

// On the straight way between the third place lies in the middle, so that it is as near by it.
func TestPromise77OnTheWayItIsAsNear(t *testing.T) {
	for _, up := range spotUps() {
		p, q, by := spot(up, 4545678), spot(0, 4545678), spot(up/2, 4545678)
		straight, first, second := mustDist(t, p, q), mustDist(t, p, by), mustDist(t, by, q)
		if first.Low+second.Low > straight.High || first.High+second.High < straight.Low {
			t.Errorf("from %v to %v it is %v, but by %v it is %v and %v", p, q, straight, by, first, second)
		}
	}
}

// spotRoundHolds holds what is told against both ends, and says whether it is told.
func spotRoundHolds(t *testing.T, p impl.Spot, q impl.Spot, f impl.Fan, parts int, way int) bool {
	t.Helper()
	n, ok := impl.SpotRound(p, q, parts, way)
	low, high := exactly(big.NewRat(int64(f.Low), int64(parts)), way), exactly(big.NewRat(int64(f.High), int64(parts)), way)
	if ok != (low == high) || ok && n != low || !ok && n != 0 {
		t.Errorf("SpotRound(%v, %v, %d, %d) is %d, %v, the ends of %v are rounded to %d and %d", p, q, parts, way, n, ok, f, low, high)
	}
	return ok
}

func TestPromise78BothEndsRounded(t *testing.T) {
	told, notTold := map[int]int{}, map[int]int{}
	eachSpotPair(fewSpots(), func(p impl.Spot, q impl.Spot) {
		f := mustDist(t, p, q)
		for _, parts := range fanParts() {
			for _, way := range roundWays() {
				if spotRoundHolds(t, p, q, f, parts, way) {
					told[way]++
				} else {
					notTold[way]++
				}
			}
		}
	})
	for _, way := range roundWays() {
		if told[way] < 500 || notTold[way] < 500 {
			t.Errorf("only %d were told, %d not, rounded by %d", told[way], notTold[way], way)
		}
	}
}

func TestSpotRoundByHand(t *testing.T) {
	deg := impl.AngDegree
	for _, c := range []struct {
		p, q                 impl.Spot
		parts                int
		down, up, zero, even int
	}{
		{spot(0, 0), spot(0, 0), 1, 0, 0, 0, 0},
		{spot(quart, 5), spot(quart, 77), 1, 0, 0, 0, 0},
		{spot(0, 0), spot(0, 0), turn, 0, 0, 0, 0},
		{spot(0, 0), spot(0, 60*deg), 1, 21600000, 21600000, 21600000, 21600000},
		{spot(0, 0), spot(60*deg, 0), deg, 60, 60, 60, 60},
		{spot(0, 0), spot(0, 60*deg), turn, 0, 1, 0, 0},
		{spot(0, 0), spot(0, 60*deg), 2 * 21600000, 0, 1, 0, 0},
		{spot(0, 0), spot(0, 60*deg), 2 * 21600000 / 3, 1, 2, 1, 2},
		{spot(10*deg, 20*deg), spot(50*deg, 20*deg), 1, unsure, unsure, unsure, unsure},
		{spot(10*deg, 20*deg), spot(50*deg, 20*deg), impl.AngMinute, unsure, unsure, unsure, 2400},
		{spot(10*deg, 20*deg), spot(50*deg, 20*deg), turn, 0, 1, 0, 0},
		{spot(0, 0), spot(0, 1), impl.AngSecond, unsure, unsure, unsure, unsure},
		{spot(0, 0), spot(0, 1), impl.AngMinute, 0, unsure, 0, 0},
		{spot(0, 0), spot(0, half), turn, 0, 1, 0, 0},
		{spot(0, 0), spot(0, half), half, unsure, 1, unsure, 1},
		{spot(0, 0), spot(0, half), 1, unsure, unsure, unsure, unsure},
		{spot(0, 0), spot(0, half), impl.AngSecond, unsure, 648000, unsure, 648000},
		{spot(eighth, 0), spot(-eighth, half), impl.AngMinute, unsure, 10800, unsure, unsure},
		{spot(18916392, 4545678), spot(17446896, 831600), impl.AngSecond, 27780, 27781, 27780, 27781},
		{spot(18916392, 4545678), spot(17446896, 831600), turn - 1, 0, 1, 0, 0},
	} {
		for i, want := range []int{c.down, c.up, c.zero, c.even} {
			sure := want != unsure
			if !sure {
				want = 0
			}
			if n, ok := impl.SpotRound(c.p, c.q, c.parts, roundWays()[i]); n != want || ok != sure {
				t.Errorf("SpotRound(%v, %v, %d, %d) is %d, %v, want %d, %v", c.p, c.q, c.parts, roundWays()[i], n, ok, want, sure)
			}
		}
	}
}

// nearInWords is by the ends of both squares.
func nearInWords(p impl.Spot, q impl.Spot, toP impl.Span, toQ impl.Span) int {
	switch {
	case areSame(p, q):
		return impl.SureNo
	case toP.High < toQ.Low:
		return impl.SureYes
	case toP.Low >= toQ.High:
		return impl.SureNo
	}
	return impl.SureNot
}

func TestPromise79WhatIsSurelyNearer(t *testing.T) {
	verdicts := map[int]int{}
	for _, from := range fewSpots() {
		eachSpotPair(fewSpots(), func(p impl.Spot, q impl.Spot) {
			got, back := impl.SpotNear(from, p, q), impl.SpotNear(from, q, p)
			verdicts[got]++
			if got == impl.SureYes && back != impl.SureNo {
				t.Errorf("from %v %v is surely nearer than %v, but the other way it is %d", from, p, q, back)
			}
			if want := nearInWords(p, q, mustSquare(t, from, p), mustSquare(t, from, q)); got != want {
				t.Errorf("SpotNear(%v, %v, %v) is %d, want %d", from, p, q, got, want)
			}
			truly := trueSquare(from, p).Cmp(trueSquare(from, q))
			if got == impl.SureYes && truly >= 0 || got == impl.SureNo && truly < 0 && !areSame(p, q) {
				t.Errorf("SpotNear(%v, %v, %v) is %d, but that is not so", from, p, q, got)
			}
		})
	}
	for verdict := impl.SureYes; verdict <= impl.SureNot; verdict++ {
		if verdicts[verdict] < 1000 {
			t.Errorf("only %d verdicts are %d", verdicts[verdict], verdict)
		}
	}
	if len(verdicts) != 3 {
		t.Errorf("there are %d verdicts: %v", len(verdicts), verdicts)
	}
}

func TestNearByHand(t *testing.T) {
	deg := impl.AngDegree
	for _, c := range []struct {
		from, p, q impl.Spot
		want       int
	}{
		{spot(0, 0), spot(0, 10*deg), spot(0, 20*deg), impl.SureYes},
		{spot(0, 0), spot(0, 20*deg), spot(0, 10*deg), impl.SureNo},
		{spot(0, 0), spot(0, 350*deg), spot(0, 20*deg), impl.SureYes},
		{spot(0, 0), spot(5*deg, 5*deg), spot(5*deg, 5*deg), impl.SureNo},
		{spot(0, 0), spot(quart, 5), spot(quart, 77), impl.SureNo},
		{spot(12345678, 5), spot(-quart, 0), spot(-quart, half), impl.SureNo},
		{spot(0, 0), spot(quart, 0), spot(-quart, 0), impl.SureNot},
		{spot(1, 0), spot(quart, 0), spot(-quart, 0), impl.SureYes},
		{spot(-1, 0), spot(quart, 0), spot(-quart, 0), impl.SureNo},
		// As far, and told exactly: that is surely not nearer.
		{spot(0, 0), spot(0, 60*deg), spot(60*deg, 0), impl.SureNo},
		{spot(0, 0), spot(60*deg, 0), spot(0, 300*deg), impl.SureNo},
		{spot(quart, 0), spot(30*deg, 5), spot(30*deg, 77), impl.SureNo},
		// As far, but not told exactly.
		{spot(0, 0), spot(0, 10*deg), spot(0, 350*deg), impl.SureNot},
		{spot(0, 0), spot(10*deg, 0), spot(-10*deg, 0), impl.SureNot},
		// Here and one part beside, and there and one part beside that.
		{spot(0, 0), spot(0, 0), spot(0, 1), impl.SureNot},
		{spot(0, 0), spot(0, 1), spot(0, 0), impl.SureNo},
		{spot(0, 0), spot(0, half), spot(0, half-1), impl.SureNo},
		{spot(0, 0), spot(0, half-1), spot(0, half), impl.SureNot},
		{spot(0, 0), spot(0, 0), spot(0, half), impl.SureYes},
		{spot(quart, 0), spot(quart, 9), spot(-quart, 9), impl.SureYes},
		{spot(quart, 0), spot(-quart, 9), spot(quart, 9), impl.SureNo},
	} {
		if got := impl.SpotNear(c.from, c.p, c.q); got != c.want {
			t.Errorf("SpotNear(%v, %v, %v) is %d, want %d", c.from, c.p, c.q, got, c.want)
		}
	}
}

func TestNearOfPlacesOnePartApart(t *testing.T) {
	for _, from := range fewSpots() {
		for _, p := range fewSpots() {
			for _, q := range append(beside(p), beside(opposite(p))...) {
				if got, want := impl.SpotNear(from, p, q), nearInWords(p, q, mustSquare(t, from, p), mustSquare(t, from, q)); got != want {
					t.Errorf("SpotNear(%v, %v, %v) is %d, want %d", from, p, q, got, want)
				}
			}
		}
	}
}

// The ends are the same all around, but each has its Around in its text: there texts are the same just if both parts are.
func TestPromise80TextsAreTheSame(t *testing.T) {
	hold := func(p impl.Spot, q impl.Spot) {
		texts := impl.SpotText(p) == impl.SpotText(q)
		if texts != (p == q) {
			t.Errorf("of %v and %v texts are %q and %q", p, q, impl.SpotText(p), impl.SpotText(q))
		}
		isEnd := p.Up == quart || p.Up == -quart
		if same := impl.SpotSame(p, q); !isEnd && same != texts || texts && !same {
			t.Errorf("SpotSame(%v, %v) is %v, texts are %q and %q", p, q, same, impl.SpotText(p), impl.SpotText(q))
		}
	}
	eachSpotPair(okSpots(), hold)
	eachCase(hold)
}

func TestSpotTextByHand(t *testing.T) {
	for _, c := range []struct {
		p    impl.Spot
		text string
	}{
		{spot(0, 0), "0d00m00.00s 0d00m00.00s"},
		{spot(1, 0), "0d00m00.01s 0d00m00.00s"},
		{spot(-1, 0), "-0d00m00.01s 0d00m00.00s"},
		{spot(0, 1), "0d00m00.00s 0d00m00.01s"},
		{spot(32400000, 0), "90d00m00.00s 0d00m00.00s"},
		{spot(-32400000, 0), "-90d00m00.00s 0d00m00.00s"},
		{spot(32399999, 129599999), "89d59m59.99s 359d59m59.99s"},
		{spot(-32400000, 129599999), "-90d00m00.00s 359d59m59.99s"},
		{spot(-3600000, 7200000), "-10d00m00.00s 20d00m00.00s"},
		{spot(0, 64800000), "0d00m00.00s 180d00m00.00s"},
		{spot(-4545678, 4545678), "-12d37m36.78s 12d37m36.78s"},
	} {
		if text := impl.SpotText(c.p); text != c.text {
			t.Errorf("SpotText(%v) is %q, want %q", c.p, text, c.text)
		}
	}
}

func TestSpotTextIsThatOfBothAngles(t *testing.T) {
	for _, p := range okSpots() {
		if got, want := impl.SpotText(p), impl.AngText(p.Up)+" "+impl.AngText(p.Around); got != want {
			t.Errorf("SpotText(%v) is %q, want %q", p, got, want)
		}
	}
}

// saysTheSameAgain holds that no call leaves anything for the next one, or for one that runs at the same time.
func saysTheSameAgain[T comparable](t *testing.T, ask func() []T) {
	t.Helper()
	first := ask()
	answers := make(chan []T)
	for range 4 {
		go func() { answers <- ask() }()
	}
	for range 4 {
		again := <-answers
		if len(again) != len(first) {
			t.Fatalf("asked again, there are %d answers, not %d", len(again), len(first))
		}
		for i := range again {
			if again[i] != first[i] {
				t.Errorf("asked again, %d is %v, not %v", i, again[i], first[i])
			}
		}
	}
}

func TestSpotsAgainAndAtTheSameTime(t *testing.T) {
	type answer struct {
		square impl.Span
		dist   impl.Fan
	}
	saysTheSameAgain(t, func() []answer {
		var out []answer
		eachSpotPair(fewSpots(), func(p impl.Spot, q impl.Spot) {
			square, _ := impl.SpotSquare(p, q)
			dist, _ := impl.SpotDist(p, q)
			out = append(out, answer{square, dist})
		})
		return out
	})
}

func TestOnePlaceThatIsNone(t *testing.T) {
	for _, no := range noSpots() {
		if far, ok := impl.SpotFar(no); ok || far != (impl.Spot{}) {
			t.Errorf("SpotFar(%v) is %v, %v", no, far, ok)
		}
		if text := impl.SpotText(no); text != "" {
			t.Errorf("SpotText(%v) is %q", no, text)
		}
	}
}

func noneBetween(t *testing.T, p impl.Spot, q impl.Spot) {
	t.Helper()
	if impl.SpotSame(p, q) {
		t.Errorf("SpotSame(%v, %v) is true", p, q)
	}
	if s, ok := impl.SpotSquare(p, q); ok || s != (impl.Span{}) {
		t.Errorf("SpotSquare(%v, %v) is %v, %v", p, q, s, ok)
	}
	if f, ok := impl.SpotDist(p, q); ok || f != (impl.Fan{}) {
		t.Errorf("SpotDist(%v, %v) is %v, %v", p, q, f, ok)
	}
}

func TestTwoPlacesOfWhichOneIsNone(t *testing.T) {
	for _, no := range noSpots() {
		noneBetween(t, no, no)
		for _, other := range append(fewSpots(), fewNoSpots()...) {
			noneBetween(t, no, other)
			noneBetween(t, other, no)
		}
	}
}

func TestThreePlacesOfWhichOneIsNone(t *testing.T) {
	others := append(fewSpots()[:12], fewNoSpots()...)
	for _, no := range append(fewNoSpots(), noSpots()...) {
		eachSpotPair(others, func(p impl.Spot, q impl.Spot) {
			for _, c := range [3][3]impl.Spot{{no, p, q}, {p, no, q}, {p, q, no}} {
				if got := impl.SpotNear(c[0], c[1], c[2]); got != impl.SureNot {
					t.Errorf("SpotNear(%v, %v, %v) is %d", c[0], c[1], c[2], got)
				}
			}
		})
		for _, from := range others {
			if got := impl.SpotNear(from, no, no); got != impl.SureNot {
				t.Errorf("SpotNear(%v, %v, %v) is %d", from, no, no, got)
			}
		}
	}
}

func spotNotRounded(t *testing.T, p impl.Spot, q impl.Spot, parts int, way int) {
	t.Helper()
	if n, ok := impl.SpotRound(p, q, parts, way); ok || n != 0 {
		t.Errorf("SpotRound(%v, %v, %d, %d) is %d, %v", p, q, parts, way, n, ok)
	}
}

func TestSpotRoundOfPlacesThatAreNone(t *testing.T) {
	for _, no := range noSpots() {
		for _, parts := range []int{1, impl.AngSecond, turn, 0, turn + 1} {
			for _, way := range append(wrongWays(), roundWays()...) {
				spotNotRounded(t, no, no, parts, way)
				spotNotRounded(t, no, spot(0, 0), parts, way)
				spotNotRounded(t, spot(quart, half), no, parts, way)
			}
		}
	}
}

// spotsApart are two places: the same ones, ordinary ones, and opposite ones.
func spotsApart() [][2]impl.Spot {
	return [][2]impl.Spot{
		{spot(0, 0), spot(0, 0)}, {spot(quart, 5), spot(quart, 77)}, {spot(0, 0), spot(0, 2*twelfth)},
		{spot(12345678, 23456789), spot(-4545678, 98765432)}, {spot(0, 0), spot(0, half)}, {spot(quart, 0), spot(-quart, turn-1)},
	}
}

func TestSpotRoundToPartsOrByAWayThatIsNone(t *testing.T) {
	for _, c := range spotsApart() {
		for _, parts := range wrongFanParts() {
			for _, way := range append(wrongWays(), roundWays()...) {
				spotNotRounded(t, c[0], c[1], parts, way)
			}
		}
		for _, parts := range fanParts() {
			for _, way := range wrongWays() {
				spotNotRounded(t, c[0], c[1], parts, way)
			}
		}
	}
}
