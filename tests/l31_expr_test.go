package tests

import (
	"math"
	"math/big"
	"runtime"
	"slices"
	"strconv"
	"testing"
	"time"

	"loop.example/alidade/impl"
)

func exprOf(kind int, kids ...impl.Expr) impl.Expr {
	return impl.Expr{Kind: kind, Kids: kids}
}

func exprNum(a int, b int) impl.Expr {
	return impl.Expr{Kind: impl.ExprNum, A: a, B: b}
}

func exprSine(a int) impl.Expr {
	return impl.Expr{Kind: impl.ExprSine, A: a}
}

func exprNeg(e impl.Expr) impl.Expr {
	return exprOf(impl.ExprNeg, e)
}

func exprRoot(e impl.Expr) impl.Expr {
	return exprOf(impl.ExprRoot, e)
}

func exprAdd(e impl.Expr, f impl.Expr) impl.Expr {
	return exprOf(impl.ExprAdd, e, f)
}

func exprSub(e impl.Expr, f impl.Expr) impl.Expr {
	return exprOf(impl.ExprSub, e, f)
}

func exprMul(e impl.Expr, f impl.Expr) impl.Expr {
	return exprOf(impl.ExprMul, e, f)
}

func exprDiv(e impl.Expr, f impl.Expr) impl.Expr {
	return exprOf(impl.ExprDiv, e, f)
}

func kindsOfOne() []int {
	return []int{impl.ExprNeg, impl.ExprRoot}
}

func kindsOfTwo() []int {
	return []int{impl.ExprAdd, impl.ExprSub, impl.ExprMul, impl.ExprDiv}
}

// exprLeaves have no Kids: numbers and sines, the edges among them.
func exprLeaves() []impl.Expr {
	out := []impl.Expr{
		exprNum(0, 1), exprNum(0, 1000), exprNum(1, 1), exprNum(-1, 1), exprNum(2, 1), exprNum(1000, 1), exprNum(-1000, 1), exprNum(1000, 1000), exprNum(-1000, 999), exprNum(1000, 931), exprNum(1000, 932),
		exprNum(1, 2), exprNum(2, 4), exprNum(-1, 2), exprNum(1, 3), exprNum(-2, 3), exprNum(3, 4), exprNum(5, 7), exprNum(-6, 8), exprNum(73, 1000), exprNum(1, 1000), exprNum(-1, 1000), exprNum(999, 1000), exprNum(17, 997),
	}
	for _, a := range []int{0, 1, -1, twelfth, -twelfth, quart, -quart, eighth, half, turn, -turn, turn - 1, 4545678, -4545678, 31234567} {
		out = append(out, exprSine(a))
	}
	return out
}

// exprsOfLeaves are each kind of each one, or two, of these.
func exprsOfLeaves(leaves []impl.Expr) []impl.Expr {
	var out []impl.Expr
	for _, e := range leaves {
		for _, kind := range kindsOfOne() {
			out = append(out, exprOf(kind, e))
		}
		for _, f := range leaves {
			for _, kind := range kindsOfTwo() {
				out = append(out, exprOf(kind, e, f))
			}
		}
	}
	return out
}

// exprDice falls the same way each time.
type exprDice uint64

func (d *exprDice) below(n int) int {
	*d = *d*6364136223846793005 + 1442695040888963407
	return int(*d>>33) % n
}

// expr is just so large, of these leaves.
func (d *exprDice) expr(size int, leaves []impl.Expr) impl.Expr {
	if size == 1 {
		return leaves[d.below(len(leaves))]
	}
	if size == 2 || d.below(5) == 0 {
		return exprOf(kindsOfOne()[d.below(2)], d.expr(size-1, leaves))
	}
	first := 1 + d.below(size-2)
	return exprOf(kindsOfTwo()[d.below(4)], d.expr(first, leaves), d.expr(size-1-first, leaves))
}

// tameLeaves are numbers above 0, and below one: of them much may be reckoned before it is too great.
func tameLeaves() []impl.Expr {
	return []impl.Expr{exprNum(1, 7), exprNum(2, 5), exprNum(3, 4), exprNum(1, 3), exprNum(5, 9), exprNum(999, 1000), exprNum(17, 100)}
}

// okExprs are of each kind, one within the other, up to ExprMax.
func okExprs() []impl.Expr {
	leaves, dice := exprLeaves(), exprDice(31)
	out := append(leaves, exprsOfLeaves(leaves)...)
	for size := 2; size <= impl.ExprMax; size++ {
		for range 250 {
			out = append(out, dice.expr(size, leaves), dice.expr(size, tameLeaves()), dice.expr(size, leaves[11:15]))
		}
	}
	return append(out, greatExprs()...)
}

// Numbers as great as they may be, and one more.

func exprBillion() impl.Expr {
	return exprMul(exprMul(exprNum(1000, 1), exprNum(1000, 1)), exprNum(1000, 1))
}

func exprBillionth() impl.Expr {
	return exprMul(exprMul(exprNum(1, 1000), exprNum(1, 1000)), exprNum(1, 1000))
}

// exprPart is one divided by 52579.
func exprPart() impl.Expr {
	return exprDiv(exprNum(1, 1), exprAdd(exprMul(exprNum(52, 1), exprNum(1000, 1)), exprNum(579, 1)))
}

// exprWide is a fraction whose numbers multiplied are far above 2^59, and which is told exactly all the same.
func exprWide() impl.Expr {
	return exprMul(exprMul(exprNum(997, 999), exprNum(991, 998)), exprNum(983, 995))
}

// crossing is a fraction a/b of nine in all, and another one c/b of five: b is q*(r*u+t*s), a is q*p1*p2+s*u*p3, and c is s*u.
type crossing struct{ q, s, u, r, t, p1, p2, p3 int }

// crossings have a*b as near to 2^59 as was met, the one 8 below, the other 4 above: 2^59 itself is no product of two numbers up to SpanUnit, nor is one more, nor what is nearer than these but for 2 below, for which no room was found in ExprMax.
func crossings() [2]crossing {
	return [2]crossing{{904, 997, 991, 500, 445, 956, 126, 577}, {571, 1000, 983, 949, 640, 866, 646, 328}}
}

func (c crossing) below() impl.Expr {
	return exprAdd(exprNum(c.r, c.s), exprNum(c.t, c.u))
}

func (c crossing) great() impl.Expr {
	return exprDiv(exprAdd(exprMul(exprNum(c.p1, c.s), exprNum(c.p2, c.u)), exprNum(c.p3, c.q)), c.below())
}

func (c crossing) small() impl.Expr {
	return exprDiv(exprNum(1, c.q), c.below())
}

// greatAbout is less than nothing by as much, and as large.
func (c crossing) greatAbout() impl.Expr {
	return crossing{c.q, c.s, c.u, c.r, c.t, -c.p1, c.p2, -c.p3}.great()
}

func greatExprs() []impl.Expr {
	wide := exprWide()
	out := []impl.Expr{
		exprBillion(), exprNeg(exprBillion()), exprAdd(exprBillion(), exprNum(1, 1)), exprSub(exprNeg(exprBillion()), exprNum(1, 1)), exprSub(exprBillion(), exprNum(1, 1)),
		exprBillionth(), exprSub(exprNum(1, 1), exprBillionth()), exprAdd(exprNum(1, 1), exprBillionth()), exprMul(exprPart(), exprMul(exprNum(1, 91), exprNum(1, 209))),
		wide, exprSub(wide, wide), exprAdd(wide, exprNeg(wide)), exprMul(wide, exprDiv(exprNum(1, 1), wide)), exprDiv(wide, wide),
	}
	for _, c := range crossings() {
		for _, great := range []impl.Expr{c.great(), c.greatAbout()} {
			out = append(out, great, exprAdd(great, c.small()), exprAdd(c.small(), great), exprSub(great, c.small()), exprSub(c.small(), great))
		}
	}
	return out
}

// exprRow is so large, one within the other.
func exprRow(size int) impl.Expr {
	e := exprNum(1, 2)
	for range size - 1 {
		e = exprNeg(e)
	}
	return e
}

// exprSpread has so many numbers, as widely spread as can be; it is one less than twice as large.
func exprSpread(numbers int) impl.Expr {
	if numbers == 1 {
		return exprNum(1, 10)
	}
	return exprAdd(exprSpread(numbers/2), exprSpread(numbers-numbers/2))
}

// The chapter's words, once more, by numbers of any size.

func spanInWords(e impl.Expr) (impl.Span, bool) {
	var kids []impl.Span
	for _, kid := range e.Kids {
		s, ok := spanInWords(kid)
		if !ok {
			return impl.Span{}, false
		}
		kids = append(kids, s)
	}
	s, ok := spanOfKids(e, kids)
	if !ok || s.Low < -spanMax || s.High > spanMax {
		return impl.Span{}, false
	}
	return s, true
}

func spanOfKids(e impl.Expr, kids []impl.Span) (impl.Span, bool) {
	switch e.Kind {
	case impl.ExprNum:
		return around(big.NewRat(int64(e.A)*unit, int64(e.B))), true
	case impl.ExprNeg:
		return span(-kids[0].High, -kids[0].Low), true
	case impl.ExprRoot:
		if kids[0].Low < 0 {
			return impl.Span{}, false
		}
		return rootInWords(kids[0]), true
	case impl.ExprSine:
		return sineInWords(2 * e.A), true
	case impl.ExprAdd:
		return span(kids[0].Low+kids[1].Low, kids[0].High+kids[1].High), true
	case impl.ExprSub:
		return span(kids[0].Low-kids[1].High, kids[0].High-kids[1].Low), true
	case impl.ExprMul:
		return mulInWords(kids[0], kids[1]), true
	}
	if kids[1].Low <= 0 && kids[1].High >= 0 {
		return impl.Span{}, false
	}
	return divInWords(kids[0], kids[1]), true
}

func ratInWords(e impl.Expr) (*big.Rat, bool) {
	var kids []*big.Rat
	for _, kid := range e.Kids {
		n, ok := ratInWords(kid)
		if !ok {
			return nil, false
		}
		kids = append(kids, n)
	}
	n, ok := ratOfKids(e, kids)
	one := big.NewInt(unit)
	if !ok || n.Num().CmpAbs(one) > 0 || n.Denom().Cmp(one) > 0 {
		return nil, false
	}
	return n, true
}

func ratOfKids(e impl.Expr, kids []*big.Rat) (*big.Rat, bool) {
	n := new(big.Rat)
	switch e.Kind {
	case impl.ExprNum:
		return big.NewRat(int64(e.A), int64(e.B)), true
	case impl.ExprNeg:
		return n.Neg(kids[0]), true
	case impl.ExprAdd:
		return n.Add(kids[0], kids[1]), mayCross(kids[0], kids[1])
	case impl.ExprSub:
		return n.Sub(kids[0], kids[1]), mayCross(kids[0], kids[1])
	case impl.ExprMul:
		return n.Mul(kids[0], kids[1]), true
	case impl.ExprDiv:
		if kids[1].Sign() == 0 {
			return nil, false
		}
		return n.Quo(kids[0], kids[1]), true
	}
	return nil, false
}

func mayCross(x *big.Rat, y *big.Rat) bool {
	most := big.NewInt(1 << 59)
	return times(x.Num(), y.Denom()).CmpAbs(most) <= 0 && times(y.Num(), x.Denom()).CmpAbs(most) <= 0
}

func textInWords(e impl.Expr) string {
	words := []string{"", "", "neg", "root", "sine " + impl.AngText(e.A), "add", "sub", "mul", "div"}
	words[impl.ExprNum] = strconv.Itoa(e.A) + "/" + strconv.Itoa(e.B)
	text := words[e.Kind]
	for _, kid := range e.Kids {
		text += " " + textInWords(kid)
	}
	return text
}

func exprFloat() *big.Float {
	return new(big.Float).SetPrec(500)
}

// trueExpr is what is true, but for far less than a part; false, if there is no such number.
func trueExpr(e impl.Expr) (*big.Float, bool) {
	var kids []*big.Float
	for _, kid := range e.Kids {
		x, ok := trueExpr(kid)
		if !ok {
			return nil, false
		}
		kids = append(kids, x)
	}
	x := exprFloat()
	switch e.Kind {
	case impl.ExprNum:
		return x.SetRat(big.NewRat(int64(e.A), int64(e.B))), true
	case impl.ExprNeg:
		return x.Neg(kids[0]), true
	case impl.ExprRoot:
		if kids[0].Sign() < 0 {
			return nil, false
		}
		return x.Sqrt(kids[0]), true
	case impl.ExprSine:
		return trueSineExpr(e.A), true
	case impl.ExprAdd:
		return x.Add(kids[0], kids[1]), true
	case impl.ExprSub:
		return x.Sub(kids[0], kids[1]), true
	case impl.ExprMul:
		return x.Mul(kids[0], kids[1]), true
	}
	if kids[1].Sign() == 0 {
		return nil, false
	}
	return x.Quo(kids[0], kids[1]), true
}

// trueSineExpr is 0, half and one just so, as a root or a quotient of what is nearly 0 would be far away.
func trueSineExpr(a int) *big.Float {
	if s := sineInWords(2 * a); s.Low == s.High {
		return exprFloat().SetRat(big.NewRat(int64(s.Low), unit))
	}
	return exprFloat().Quo(exprFloat().SetInt(trueSine(2*a)), exprFloat().SetInt(trueOne))
}

func mustExprSpan(t *testing.T, e impl.Expr) impl.Span {
	t.Helper()
	s, ok := impl.ExprSpan(e)
	if !ok {
		t.Fatalf("ExprSpan(%s) is false", textInWords(e))
	}
	return s
}

// exprParts are few enough to round everything to each of them.
func exprParts() []int {
	return []int{1, 2, 10, 1000, 1000000, 333333333, unit / 2, unit}
}

func eachExprRounding(do func(e impl.Expr, parts int, way int)) {
	for _, e := range okExprs() {
		for _, parts := range exprParts() {
			for _, way := range roundWays() {
				do(e, parts, way)
			}
		}
	}
}

// enough says that what was looked for was met so often that it was not by chance.
func enough(t *testing.T, what string, met int, least int) {
	t.Helper()
	if met < least {
		t.Errorf("only %d are %s", met, what)
	}
}

func TestExprConstants(t *testing.T) {
	got := []int{impl.ExprNum, impl.ExprNeg, impl.ExprRoot, impl.ExprSine, impl.ExprAdd, impl.ExprSub, impl.ExprMul, impl.ExprDiv, impl.ExprMax}
	if want := []int{1, 2, 3, 4, 5, 6, 7, 8, 15}; !slices.Equal(got, want) {
		t.Errorf("constants are %v, want %v", got, want)
	}
}

func TestExprJustAsTheWordsSay(t *testing.T) {
	spans, rats := 0, 0
	for _, e := range okExprs() {
		text := textInWords(e)
		if !impl.ExprOk(e) || impl.ExprText(e) != text {
			t.Errorf("ExprOk(%s) is %v, its text %q", text, impl.ExprOk(e), impl.ExprText(e))
		}
		s, ok := impl.ExprSpan(e)
		if want, told := spanInWords(e); s != want || ok != told {
			t.Errorf("ExprSpan(%s) is %v, %v, want %v, %v", text, s, ok, want, told)
		} else if told && s.Low < s.High {
			spans++
		}
		ratHolds(t, e)
		if _, _, ok := impl.ExprRat(e); ok {
			rats++
		}
	}
	enough(t, "reckoned as spans", spans, 3000)
	enough(t, "reckoned exactly", rats, 3000)
}

func ratHolds(t *testing.T, e impl.Expr) {
	t.Helper()
	if n, told := ratInWords(e); told {
		ratIs(t, e, int(n.Num().Int64()), int(n.Denom().Int64()))
	} else {
		noRat(t, e)
	}
}

func TestExprSpanByHand(t *testing.T) {
	third, deg := exprNum(1, 3), impl.AngDegree
	for _, c := range []struct {
		e    impl.Expr
		want impl.Span
	}{
		{exprNum(0, 1), point(0)},
		{exprNum(0, 1000), point(0)},
		{exprNum(1, 1), point(unit)},
		{exprNum(-1, 1), point(-unit)},
		{exprNum(1000, 1000), point(unit)},
		{exprNum(-1000, 1000), point(-unit)},
		{exprNum(1, 1000), point(1000000)},
		{exprNum(1000, 932), span(1072961373, 1072961374)},
		{third, span(333333333, 333333334)},
		{exprNeg(third), span(-333333334, -333333333)},
		{exprNeg(exprNum(0, 7)), point(0)},
		{exprRoot(exprNum(1, 4)), point(unit / 2)},
		{exprRoot(exprNum(1, 2)), span(707106781, 707106782)},
		{exprRoot(third), span(577350268, 577350270)},
		{exprRoot(exprNum(0, 1)), point(0)},
		{exprRoot(exprNum(1, 1)), point(unit)},
		{exprSine(0), point(0)},
		{exprSine(12 * deg), span(207911688, 207911694)},
		{exprSine(-12 * deg), span(-207911694, -207911688)},
		{exprSine(-30 * deg), point(-unit / 2)},
		{exprSine(turn), point(0)},
		{exprSine(-turn), point(0)},
		{exprSine(turn - 90*deg), point(-unit)},
		{exprAdd(third, third), span(666666666, 666666668)},
		{exprSub(third, third), span(-1, 1)},
		{exprSub(exprNum(1, 1), third), span(666666666, 666666667)},
		{exprSub(third, exprNum(1, 1)), span(-666666667, -666666666)},
		{exprMul(third, third), span(111111110, 111111112)},
		{exprMul(third, exprNum(-1, 1)), span(-333333334, -333333333)},
		{exprDiv(third, exprNum(1, 2)), span(666666666, 666666668)},
		{exprDiv(third, exprNum(-2, 3)), span(-500000002, -499999999)},
		{exprDiv(exprNum(0, 1), third), point(0)},
		{exprAdd(exprNum(1, 1), exprNum(73, 1000)), point(spanMax)},
		{exprSub(exprNum(-1, 1), exprNum(73, 1000)), point(-spanMax)},
		{exprDiv(exprNum(29, 1000), exprNum(29, 1000)), point(unit)},
		{exprAdd(exprMul(exprSine(12*deg), exprSine(12*deg)), exprMul(exprSine(78*deg), exprSine(78*deg))), span(999999993, 1000000007)},
		{exprRow(15), point(unit / 2)},
		{exprSpread(8), point(800000000)},
	} {
		if s := mustExprSpan(t, c.e); s != c.want {
			t.Errorf("ExprSpan(%s) is %v, want %v", textInWords(c.e), s, c.want)
		}
	}
}

// What is ok, and yet has no span: too great, a root of less than nothing, or divided by 0, in the end or on the way.
func TestExprWithoutSpan(t *testing.T) {
	one, none := exprNum(1, 1), exprNum(0, 1)
	for _, e := range []impl.Expr{
		exprNum(2, 1), exprNum(-1000, 1), exprNum(1000, 931), exprNum(-1000, 931), exprAdd(one, one), exprAdd(one, exprNum(74, 1000)), exprSub(exprNum(-1, 1), exprNum(74, 1000)),
		exprSub(exprNum(2, 1), one), exprSub(exprAdd(one, one), one), exprMul(exprNum(1, 2), exprNum(2, 1)), exprNeg(exprNum(2, 1)), exprRoot(exprNum(2, 1)), exprMul(none, exprAdd(one, one)),
		exprDiv(exprAdd(one, one), exprAdd(one, one)), exprDiv(one, exprNum(1, 2)), exprMul(exprDiv(one, exprNum(1, 2)), exprNum(1, 2)), exprDiv(one, exprNum(931, 1000)), exprMul(exprBillion(), none),
		exprRoot(exprNum(-1, 4)), exprRoot(exprNum(-1, 1000)), exprRoot(exprSub(exprNum(1, 3), exprNum(1, 3))), exprRoot(exprSine(-1)), exprMul(exprRoot(exprNum(-1, 4)), exprRoot(exprNum(-1, 4))),
		exprDiv(one, none), exprDiv(none, none), exprDiv(none, exprNum(0, 5)), exprDiv(one, exprSine(0)), exprDiv(one, exprSine(turn)), exprDiv(none, exprSub(exprNum(1, 3), exprNum(1, 3))), exprMul(none, exprDiv(one, none)),
		exprSub(exprDiv(one, none), exprDiv(one, none)), exprNeg(exprDiv(one, none)), exprRoot(exprDiv(one, none)), exprAdd(exprDiv(one, none), one), exprAdd(one, exprDiv(one, none)),
	} {
		text := textInWords(e)
		if s, ok := impl.ExprSpan(e); ok || s != (impl.Span{}) || !impl.ExprOk(e) || impl.ExprText(e) != text {
			t.Errorf("ExprSpan(%s) is %v, %v, and ok it is %v", text, s, ok, impl.ExprOk(e))
		}
		for _, way := range roundWays() {
			exprNotRounded(t, e, 1, way)
			exprNotRounded(t, e, unit, way)
		}
	}
}

func exprNotRounded(t *testing.T, e impl.Expr, parts int, way int) {
	t.Helper()
	if n, ok := impl.ExprRound(e, parts, way); ok || n != 0 {
		t.Errorf("ExprRound(%v, %d, %d) is %d, %v", e, parts, way, n, ok)
	}
}

func TestExprRatByHand(t *testing.T) {
	for _, c := range []struct {
		e    impl.Expr
		want number
	}{
		{exprNum(0, 1), number{0, 1}},
		{exprNum(0, 1000), number{0, 1}},
		{exprNum(1, 1), number{1, 1}},
		{exprNum(2, 4), number{1, 2}},
		{exprNum(-6, 8), number{-3, 4}},
		{exprNum(1000, 1), number{1000, 1}},
		{exprNum(-1000, 1), number{-1000, 1}},
		{exprNum(1000, 1000), number{1, 1}},
		{exprNum(-1000, 1000), number{-1, 1}},
		{exprNum(1000, 999), number{1000, 999}},
		{exprNeg(exprNum(2, 4)), number{-1, 2}},
		{exprNeg(exprNum(-2, 4)), number{1, 2}},
		{exprNeg(exprNum(0, 4)), number{0, 1}},
		{exprAdd(exprNum(1, 2), exprNum(1, 3)), number{5, 6}},
		{exprAdd(exprNum(1, 2), exprNum(-1, 2)), number{0, 1}},
		{exprAdd(exprNum(1, 6), exprNum(1, 3)), number{1, 2}},
		{exprAdd(exprNum(1, 1), exprNum(1, 1)), number{2, 1}},
		{exprSub(exprNum(1, 2), exprNum(1, 3)), number{1, 6}},
		{exprSub(exprNum(1, 3), exprNum(1, 2)), number{-1, 6}},
		{exprSub(exprNum(1, 3), exprNum(1, 3)), number{0, 1}},
		{exprMul(exprNum(2, 3), exprNum(3, 4)), number{1, 2}},
		{exprMul(exprNum(-2, 3), exprNum(3, 4)), number{-1, 2}},
		{exprMul(exprNum(-2, 3), exprNum(-3, 4)), number{1, 2}},
		{exprMul(exprNum(0, 3), exprNum(-3, 4)), number{0, 1}},
		{exprDiv(exprNum(1, 2), exprNum(3, 4)), number{2, 3}},
		{exprDiv(exprNum(1, 2), exprNum(-3, 4)), number{-2, 3}},
		{exprDiv(exprNum(-1, 2), exprNum(3, 4)), number{-2, 3}},
		{exprDiv(exprNum(-1, 2), exprNum(-3, 4)), number{2, 3}},
		{exprDiv(exprNum(0, 2), exprNum(3, 4)), number{0, 1}},
		{exprDiv(exprNum(0, 2), exprNum(-3, 4)), number{0, 1}},
		{exprDiv(exprNum(1, 1), exprPart()), number{52579, 1}},
		{exprSub(exprMul(exprNum(2, 3), exprNum(3, 4)), exprNeg(exprNum(1, 6))), number{2, 3}},
		{exprSub(exprAdd(exprNum(1, 1), exprNum(1, 1)), exprNum(1, 1)), number{1, 1}},
		{exprRow(15), number{1, 2}},
		{exprRow(14), number{-1, 2}},
		{exprSpread(8), number{4, 5}},
	} {
		ratIs(t, c.e, c.want.over, c.want.under)
	}
}

func ratIs(t *testing.T, e impl.Expr, over int, under int) {
	t.Helper()
	if a, b, ok := impl.ExprRat(e); !ok || a != over || b != under {
		t.Errorf("ExprRat(%s) is %d, %d, %v, want %d, %d", textInWords(e), a, b, ok, over, under)
	}
}

func noRat(t *testing.T, e impl.Expr) {
	t.Helper()
	if a, b, ok := impl.ExprRat(e); ok || a != 0 || b != 0 {
		t.Errorf("ExprRat(%v) is %d, %d, %v", e, a, b, ok)
	}
}

// Roots and sines are not told exactly, even where they are just so.
func TestExprRatOfSomethingElse(t *testing.T) {
	one, root, sine := exprNum(1, 1), exprRoot(exprNum(1, 4)), exprSine(30*impl.AngDegree)
	for _, other := range []impl.Expr{root, sine, exprRoot(exprNum(0, 1)), exprRoot(one), exprSine(0), exprSine(quart), exprNeg(root), exprNeg(sine), exprRoot(sine)} {
		noRat(t, other)
		for _, kind := range kindsOfTwo() {
			noRat(t, exprOf(kind, other, one))
			noRat(t, exprOf(kind, one, other))
			noRat(t, exprOf(kind, exprNum(0, 1), other))
			noRat(t, exprOf(kind, other, other))
			noRat(t, exprNeg(exprOf(kind, exprSub(one, one), exprMul(exprNum(0, 1), other))))
		}
	}
}

func TestExprRatDividedByZero(t *testing.T) {
	one, none := exprNum(1, 1), exprNum(0, 1)
	for _, zero := range []impl.Expr{none, exprNum(0, 1000), exprNeg(none), exprSub(exprNum(1, 3), exprNum(1, 3)), exprAdd(exprNum(2, 4), exprNum(-1, 2)), exprMul(none, one), exprDiv(none, one)} {
		ratIs(t, zero, 0, 1)
		for _, over := range []impl.Expr{one, none, exprNum(-2, 3), zero} {
			by := exprDiv(over, zero)
			for _, e := range []impl.Expr{by, exprNeg(by), exprMul(none, by), exprMul(by, none), exprAdd(by, one), exprSub(one, by), exprDiv(by, one), exprDiv(one, by)} {
				noRat(t, e)
			}
		}
	}
}

// 1000000001 is 52579 times 19019.
func TestExprRatOfTheGreatestNumbers(t *testing.T) {
	one, billion, billionth := exprNum(1, 1), exprBillion(), exprBillionth()
	ratIs(t, billion, unit, 1)
	ratIs(t, exprNeg(billion), -unit, 1)
	ratIs(t, exprMul(billion, exprNum(-1, 1)), -unit, 1)
	ratIs(t, exprSub(billion, one), unit-1, 1)
	ratIs(t, exprAdd(exprNeg(billion), one), 1-unit, 1)
	ratIs(t, billionth, 1, unit)
	ratIs(t, exprNeg(billionth), -1, unit)
	ratIs(t, exprSub(one, billionth), unit-1, unit)
	ratIs(t, exprSub(billionth, one), 1-unit, unit)
	ratIs(t, exprDiv(one, billionth), unit, 1)
	ratIs(t, exprDiv(exprNum(-1, 1), billion), -1, unit)
	ratIs(t, exprMul(billion, billionth), 1, 1)
	ratIs(t, exprPart(), 1, 52579)
	for _, e := range []impl.Expr{
		exprAdd(billion, one), exprSub(billion, exprNum(-1, 1)), exprSub(exprNeg(billion), one), exprAdd(exprNeg(billion), exprNum(-1, 1)), exprAdd(one, billionth), exprSub(exprNum(-1, 1), billionth),
		exprMul(exprPart(), exprMul(exprNum(1, 91), exprNum(1, 209))), exprDiv(exprMul(exprNum(1, 91), exprNum(1, 209)), exprDiv(one, exprPart())),
		exprMul(billion, exprNum(2, 1)), exprMul(billionth, exprNum(1, 2)), exprMul(billion, billion), exprMul(billionth, billionth), exprDiv(billion, billionth), exprDiv(billionth, billion),
	} {
		noRat(t, e)
	}
}

// What is too great on the way is not told, though the end would not be.
func TestExprRatTooGreatOnTheWay(t *testing.T) {
	one, none, million := exprNum(1, 1), exprNum(0, 1), exprMul(exprNum(1000, 1), exprNum(1000, 1))
	tooGreat := exprAdd(exprBillion(), one)
	for _, e := range []impl.Expr{
		exprSub(tooGreat, one), exprAdd(exprNum(-1, 1), tooGreat), exprMul(none, tooGreat), exprMul(tooGreat, none), exprDiv(none, tooGreat), exprNeg(exprNeg(tooGreat)), exprDiv(tooGreat, exprNum(1000, 1)),
		exprDiv(exprMul(million, million), million), exprMul(exprMul(million, million), exprNum(1, 1000)), exprMul(exprMul(exprBillionth(), exprNum(1, 2)), exprNum(2, 1)), exprDiv(one, tooGreat),
	} {
		if !impl.ExprOk(e) {
			t.Errorf("%s is not ok", textInWords(e))
		}
		noRat(t, e)
	}
	ratIs(t, exprDiv(exprMul(million, exprNum(1000, 1)), million), 1000, 1)
	ratIs(t, exprMul(exprMul(exprBillionth(), exprNum(2, 1)), exprNum(1, 2)), 1, unit)
}

// A sum, and a difference, whose a times d, or c times b, is as near to 2^59 as was met.
func TestExprRatCrossed(t *testing.T) {
	const limit = 1 << 59
	for i, c := range crossings() {
		a, b, ok := impl.ExprRat(c.great())
		under := c.q * (c.r*c.u + c.t*c.s)
		if apart := []int{-8, 4}[i]; !ok || b != under || a*b != limit+apart {
			t.Fatalf("ExprRat(%s) is %d, %d, %v", textInWords(c.great()), a, b, ok)
		}
		ratIs(t, c.greatAbout(), -a, b)
		ratIs(t, c.small(), c.s*c.u, b)
		for _, e := range []impl.Expr{
			exprAdd(c.great(), c.small()), exprAdd(c.small(), c.great()), exprAdd(c.greatAbout(), c.small()), exprAdd(c.small(), c.greatAbout()),
			exprSub(c.great(), c.small()), exprSub(c.small(), c.great()), exprSub(c.greatAbout(), c.small()), exprSub(c.small(), c.greatAbout()),
		} {
			if !impl.ExprOk(e) {
				t.Errorf("%s is not ok", textInWords(e))
			}
			if _, _, ok := impl.ExprRat(e); ok != (a*b <= limit) {
				t.Errorf("ExprRat(%s) is %v, and a*d or c*b %d", textInWords(e), ok, a*b)
			}
		}
	}
}

// Only sums and differences have a times d, and c times b.
func TestExprRatOnlySumsAreCrossed(t *testing.T) {
	wide, one := exprWide(), exprNum(1, 1)
	a, b, ok := impl.ExprRat(wide)
	if !ok || a*b <= 1<<59 {
		t.Fatalf("ExprRat(%s) is %d, %d, %v", textInWords(wide), a, b, ok)
	}
	ratIs(t, exprDiv(wide, wide), 1, 1)
	ratIs(t, exprMul(wide, exprDiv(one, wide)), 1, 1)
	ratIs(t, exprMul(exprDiv(one, wide), wide), 1, 1)
	for _, e := range []impl.Expr{exprSub(wide, wide), exprAdd(wide, exprNeg(wide)), exprAdd(exprNeg(wide), wide)} {
		noRat(t, e)
	}
}

func TestWhatIsTrueIsInTheReckonedSpan(t *testing.T) {
	met := 0
	for _, e := range okExprs() {
		s, ok := impl.ExprSpan(e)
		if !ok {
			continue
		}
		x, there := trueExpr(e)
		if !there {
			t.Errorf("ExprSpan(%s) is %v, but there is no such number", textInWords(e), s)
			continue
		}
		parts, fault := exprFloat().Mul(x, exprFloat().SetInt64(unit)), exprFloat().SetFloat64(0.001)
		least, most := exprFloat().Add(parts, fault), exprFloat().Sub(parts, fault)
		if exprFloat().SetInt64(int64(s.Low)).Cmp(least) > 0 || exprFloat().SetInt64(int64(s.High)).Cmp(most) < 0 {
			t.Errorf("ExprSpan(%s) is %v, but %v is true", textInWords(e), s, x)
		}
		met++
	}
	enough(t, "reckoned", met, 5000)
}

func TestPromise85WhatIsExactIsInTheSpan(t *testing.T) {
	met := 0
	for _, e := range okExprs() {
		s, ok := impl.ExprSpan(e)
		over, under, exact := impl.ExprRat(e)
		if !ok || !exact {
			continue
		}
		if !impl.SpanHas(s, over, under) || !holds(s, big.NewRat(int64(over), int64(under))) {
			t.Errorf("ExprSpan(%s) is %v, without %d/%d", textInWords(e), s, over, under)
		}
		met++
	}
	enough(t, "both", met, 2000)
}

func TestPromise86WhatIsExactRounded(t *testing.T) {
	met := 0
	eachExprRounding(func(e impl.Expr, parts int, way int) {
		n, ok := impl.ExprRound(e, parts, way)
		over, under, exact := impl.ExprRat(e)
		if !ok || !exact {
			return
		}
		// Parts of one, so many of them at once.
		at := new(big.Rat).Mul(big.NewRat(int64(over), int64(under)), big.NewRat(unit, int64(parts)))
		if want := exactly(at, way); n != want {
			t.Errorf("ExprRound(%s, %d, %d) is %d, want %d", textInWords(e), parts, way, n, want)
		}
		met++
	})
	enough(t, "both", met, 50000)
}

func TestPromise87RoundIsThatOfTheSpan(t *testing.T) {
	met, not := 0, 0
	eachExprRounding(func(e impl.Expr, parts int, way int) {
		want, sure := 0, false
		if s, ok := impl.ExprSpan(e); ok {
			want, sure = impl.SureRound(s, parts, way)
			if !sure {
				not++
			}
		}
		n, ok := impl.ExprRound(e, parts, way)
		if n != want || ok != sure {
			t.Errorf("ExprRound(%s, %d, %d) is %d, %v, want %d, %v", textInWords(e), parts, way, n, ok, want, sure)
		}
		if sure {
			met++
		}
	})
	enough(t, "sure", met, 50000)
	enough(t, "not sure", not, 5000)
}

func TestExprRoundByHand(t *testing.T) {
	third := exprNum(1, 3)
	for _, c := range []struct {
		e                    impl.Expr
		parts                int
		down, up, zero, even int
	}{
		{third, 1, unsure, unsure, unsure, unsure},
		{third, 1000000, 333, 334, 333, 333},
		{exprNeg(third), 1000000, -334, -333, -333, -333},
		{third, unit, 0, 1, 0, 0},
		{exprNum(1, 2), unit, 0, 1, 0, 0},
		{exprNum(-1, 2), unit, -1, 0, 0, 0},
		{exprRoot(exprNum(1, 2)), 1000, 707106, 707107, 707106, 707107},
		{exprRoot(exprNum(1, 4)), 1, 500000000, 500000000, 500000000, 500000000},
		{exprSub(third, third), 10, unsure, unsure, 0, 0},
		{exprSine(12 * impl.AngDegree), 1000, 207911, 207912, 207911, 207912},
		{exprSine(12 * impl.AngDegree), 10, unsure, unsure, unsure, 20791169},
		{exprSine(-30 * impl.AngDegree), 1, -500000000, -500000000, -500000000, -500000000},
		{exprMul(exprRoot(exprNum(1, 2)), exprRoot(exprNum(1, 2))), 100000000, unsure, unsure, unsure, 5},
	} {
		for i, want := range []int{c.down, c.up, c.zero, c.even} {
			if want == unsure {
				exprNotRounded(t, c.e, c.parts, roundWays()[i])
			} else if n, ok := impl.ExprRound(c.e, c.parts, roundWays()[i]); !ok || n != want {
				t.Errorf("ExprRound(%s, %d, %d) is %d, %v, want %d", textInWords(c.e), c.parts, roundWays()[i], n, ok, want)
			}
		}
	}
}

func TestPromise88WhatIsReckonedHasKidsThatAre(t *testing.T) {
	met := 0
	for _, e := range okExprs() {
		s, ok := impl.ExprSpan(e)
		if !ok {
			continue
		}
		if !impl.SpanOk(s) {
			t.Errorf("ExprSpan(%s) is %v", textInWords(e), s)
		}
		for _, kid := range e.Kids {
			if k, ok := impl.ExprSpan(kid); !ok || !impl.SpanOk(k) {
				t.Errorf("ExprSpan(%s) is %v, of %s %v, %v", textInWords(e), s, textInWords(kid), k, ok)
			}
			met++
		}
	}
	enough(t, "reckoned Kids", met, 5000)
}

func TestPromise89NegIsTurnedAbout(t *testing.T) {
	for _, e := range okExprs() {
		about := exprNeg(e)
		if !impl.ExprOk(about) {
			continue
		}
		s, ok := impl.ExprSpan(e)
		if got, told := impl.ExprSpan(about); told != ok || got != impl.SpanNeg(s) {
			t.Errorf("ExprSpan(%s) is %v, %v, turned about %v, %v", textInWords(e), s, ok, got, told)
		}
		over, under, ok := impl.ExprRat(e)
		if a, b, told := impl.ExprRat(about); told != ok || a != -over || b != under {
			t.Errorf("ExprRat(%s) is %d, %d, %v, turned about %d, %d, %v", textInWords(e), over, under, ok, a, b, told)
		}
	}
}

func TestPromise90SumsAndProductsTheOtherWay(t *testing.T) {
	spans, rats := 0, 0
	for _, e := range okExprs() {
		if e.Kind != impl.ExprAdd && e.Kind != impl.ExprMul {
			continue
		}
		other := exprOf(e.Kind, e.Kids[1], e.Kids[0])
		s, ok := impl.ExprSpan(e)
		if again, told := impl.ExprSpan(other); again != s || told != ok {
			t.Errorf("ExprSpan(%s) is %v, %v, the other way %v, %v", textInWords(e), s, ok, again, told)
		}
		over, under, exact := impl.ExprRat(e)
		if a, b, told := impl.ExprRat(other); a != over || b != under || told != exact {
			t.Errorf("ExprRat(%s) is %d, %d, %v, the other way %d, %d, %v", textInWords(e), over, under, exact, a, b, told)
		}
		n, sure := impl.ExprRound(e, 1000, impl.RoundEven)
		if m, too := impl.ExprRound(other, 1000, impl.RoundEven); m != n || too != sure {
			t.Errorf("ExprRound(%s, 1000) is %d, %v, the other way %d, %v", textInWords(e), n, sure, m, too)
		}
		if ok {
			spans++
		}
		if exact {
			rats++
		}
	}
	enough(t, "spans", spans, 1000)
	enough(t, "exact", rats, 1000)
}

// divisible says whether both can be divided by something but 1.
func divisible(a int, b int) bool {
	return new(big.Int).GCD(nil, nil, new(big.Int).Abs(big.NewInt(int64(a))), big.NewInt(int64(b))).Cmp(big.NewInt(1)) != 0
}

func TestPromise91NoSmallerNumbers(t *testing.T) {
	met := 0
	for _, e := range okExprs() {
		over, under, ok := impl.ExprRat(e)
		if !ok {
			noRat(t, e)
			continue
		}
		if under < 1 || under > unit || over < -unit || over > unit || divisible(over, under) {
			t.Errorf("ExprRat(%s) is %d, %d", textInWords(e), over, under)
		}
		met++
	}
	enough(t, "exact", met, 3000)
}

func TestPromise92KidsOfWhatIsOkAreOk(t *testing.T) {
	for _, e := range okExprs() {
		for _, kid := range e.Kids {
			if !impl.ExprOk(e) || !impl.ExprOk(kid) {
				t.Errorf("ExprOk(%s) is %v, of %s %v", textInWords(e), impl.ExprOk(e), textInWords(kid), impl.ExprOk(kid))
			}
		}
	}
}

func TestPromise92WhatIsNotOkMakesNothingOk(t *testing.T) {
	for _, no := range noExprs() {
		for _, e := range asKid(no) {
			noneOfExpr(t, e)
		}
	}
}

func TestExprTextByHand(t *testing.T) {
	num, sine := exprNum(1, 2), exprSine(4545678)
	for _, c := range []struct {
		e    impl.Expr
		want string
	}{
		{exprNum(0, 1), "0/1"},
		{exprNum(0, 1000), "0/1000"},
		{exprNum(2, 4), "2/4"},
		{exprNum(-2, 4), "-2/4"},
		{exprNum(1000, 1), "1000/1"},
		{exprNum(-1000, 1000), "-1000/1000"},
		{impl.Expr{Kind: impl.ExprNum, A: 7, B: 8, Kids: []impl.Expr{}}, "7/8"},
		{exprSine(0), "sine 0d00m00.00s"},
		{exprSine(1), "sine 0d00m00.01s"},
		{exprSine(-1), "sine -0d00m00.01s"},
		{sine, "sine 12d37m36.78s"},
		{exprSine(-4545678), "sine -12d37m36.78s"},
		{exprSine(turn), "sine 360d00m00.00s"},
		{exprSine(-turn), "sine -360d00m00.00s"},
		{impl.Expr{Kind: impl.ExprSine, A: 100, Kids: []impl.Expr{}}, "sine 0d00m01.00s"},
		{exprNeg(num), "neg 1/2"},
		{exprRoot(num), "root 1/2"},
		{exprNeg(sine), "neg sine 12d37m36.78s"},
		{exprRoot(exprNum(-1, 2)), "root -1/2"},
		{exprAdd(num, exprNum(3, 4)), "add 1/2 3/4"},
		{exprSub(num, exprNum(3, 4)), "sub 1/2 3/4"},
		{exprMul(num, exprNum(3, 4)), "mul 1/2 3/4"},
		{exprDiv(num, exprNum(3, 4)), "div 1/2 3/4"},
		{exprDiv(num, exprNum(0, 1)), "div 1/2 0/1"},
		{exprAdd(sine, exprNeg(num)), "add sine 12d37m36.78s neg 1/2"},
		{exprAdd(exprSub(exprNum(1, 1), exprNum(2, 1)), exprNum(3, 1)), "add sub 1/1 2/1 3/1"},
		{exprAdd(exprNum(1, 1), exprSub(exprNum(2, 1), exprNum(3, 1))), "add 1/1 sub 2/1 3/1"},
		{exprRoot(exprDiv(exprMul(sine, sine), exprNeg(exprRoot(num)))), "root div mul sine 12d37m36.78s sine 12d37m36.78s neg root 1/2"},
		{exprRow(15), "neg neg neg neg neg neg neg neg neg neg neg neg neg neg 1/2"},
		{exprSpread(8), "add add add 1/10 1/10 add 1/10 1/10 add add 1/10 1/10 add 1/10 1/10"},
	} {
		if text := impl.ExprText(c.e); text != c.want {
			t.Errorf("ExprText(%v) is %q, want %q", c.e, text, c.want)
		}
	}
}

// Just ExprMax in all, however it is spread, and one more or far more.
func TestExprMax(t *testing.T) {
	dice := exprDice(15)
	for range 500 {
		if e := dice.expr(impl.ExprMax, exprLeaves()); !impl.ExprOk(e) || impl.ExprText(e) != textInWords(e) {
			t.Errorf("ExprOk(%s) is false", textInWords(e))
		}
		for more := 1; more <= 4; more++ {
			noneOfExpr(t, dice.expr(impl.ExprMax+more, tameLeaves()))
		}
	}
	for size := 1; size <= 40; size++ {
		if e := exprRow(size); impl.ExprOk(e) != (size <= impl.ExprMax) {
			t.Errorf("a row of %d is %v", size, impl.ExprOk(e))
		}
		if e := exprSpread(size); impl.ExprOk(e) != (2*size-1 <= impl.ExprMax) {
			t.Errorf("spread, %d numbers are %v", size, impl.ExprOk(e))
		}
	}
	spread := exprSpread(8)
	for _, e := range []impl.Expr{exprNeg(spread), exprAdd(spread.Kids[0], exprNeg(spread.Kids[1])), exprAdd(exprNeg(spread.Kids[0]), spread.Kids[1]), exprAdd(spread, exprNum(1, 1)), exprAdd(exprNum(1, 1), spread), exprAdd(spread, spread), exprRow(16), exprRow(5000), exprSpread(9), exprSpread(3000)} {
		noneOfExpr(t, e)
	}
}

// What has itself within has no end, and what has two of the same each time is too large to go through.
func TestExprWithItselfWithin(t *testing.T) {
	for _, kind := range kindsOfOne() {
		kids := make([]impl.Expr, 1)
		kids[0] = impl.Expr{Kind: kind, Kids: kids}
		noneOfEndless(t, kids[0])
	}
	for _, kind := range kindsOfTwo() {
		for itself := range 3 {
			kids := []impl.Expr{exprNum(1, 2), exprNum(1, 2)}
			within := impl.Expr{Kind: kind, Kids: kids}
			kids[itself%2] = within
			if itself == 2 {
				kids[1] = within
			}
			noneOfEndless(t, within)
		}
		twice := exprNum(1, 2)
		for range 62 {
			twice = exprOf(kind, twice, twice)
		}
		noneOfEndless(t, twice)
	}
}

// noneOfEndless is noneOfExpr of what can't be written out.
func noneOfEndless(t *testing.T, e impl.Expr) {
	t.Helper()
	s, told := impl.ExprSpan(e)
	a, b, exact := impl.ExprRat(e)
	n, sure := impl.ExprRound(e, unit, impl.RoundZero)
	if impl.ExprOk(e) || told || exact || sure || s != (impl.Span{}) || a != 0 || b != 0 || n != 0 || impl.ExprText(e) != "" {
		t.Errorf("Kind %d without an end is ok, or told: %v, %v, %d, %d, %v, %d, %v, %q", e.Kind, s, told, a, b, exact, n, sure, impl.ExprText(e))
	}
}

func noneOfExpr(t *testing.T, e impl.Expr) {
	t.Helper()
	if impl.ExprOk(e) {
		t.Errorf("ExprOk(%v) is true", e)
	}
	if s, ok := impl.ExprSpan(e); ok || s != (impl.Span{}) {
		t.Errorf("ExprSpan(%v) is %v, %v", e, s, ok)
	}
	noRat(t, e)
	for _, way := range []int{impl.RoundDown, impl.RoundZero, impl.RoundEven, 0, 5} {
		exprNotRounded(t, e, 1, way)
		exprNotRounded(t, e, unit, way)
	}
	if text := impl.ExprText(e); text != "" {
		t.Errorf("ExprText(%v) is %q", e, text)
	}
}

// farInts are beyond anything that is told, some of them 0 or small again in fewer bits.
func farInts() []int {
	return []int{math.MinInt, math.MinInt + 1, math.MaxInt, -1 << 32, 1 << 32, 1<<32 + 1, 1 << 16}
}

func kidsOf(n int) []impl.Expr {
	return slices.Repeat([]impl.Expr{exprNum(1, 2)}, n)
}

func wrongKinds() []impl.Expr {
	out := []impl.Expr{{}, {Kids: []impl.Expr{}}}
	for _, kind := range append([]int{0, 9, -1, -2, 10, 11, 16, 1<<32 + 2, 256 + 5, math.MinInt + 1, math.MaxInt - 1}, farInts()...) {
		for kids := range 4 {
			out = append(out, impl.Expr{Kind: kind, Kids: kidsOf(kids)}, impl.Expr{Kind: kind, A: 1, B: 2, Kids: kidsOf(kids)})
		}
	}
	return out
}

func wrongNums() []impl.Expr {
	var out []impl.Expr
	for _, a := range append([]int{1001, -1001, 1002, 2000, unit, -unit}, farInts()...) {
		for _, b := range []int{1, 1000, 0, -1, a} {
			out = append(out, exprNum(a, b))
		}
	}
	for _, b := range append([]int{0, -1, -2, -1000, 1001, 1002, unit}, farInts()...) {
		for _, a := range []int{0, 1, -1000, 1000} {
			out = append(out, exprNum(a, b))
		}
	}
	return out
}

func wrongSines() []impl.Expr {
	var out []impl.Expr
	for _, a := range append(beyondATurn(), farInts()[:5]...) {
		out = append(out, exprSine(a), impl.Expr{Kind: impl.ExprSine, A: a, B: 1})
	}
	for _, b := range append([]int{1, -1, 2, 256, 1000}, farInts()...) {
		out = append(out, impl.Expr{Kind: impl.ExprSine, B: b}, impl.Expr{Kind: impl.ExprSine, A: 4545678, B: b})
	}
	return out
}

// wrongUntold have A, or B, where it is not told.
func wrongUntold() []impl.Expr {
	var out []impl.Expr
	for kids, kinds := range [][]int{{}, kindsOfOne(), kindsOfTwo()} {
		for _, kind := range kinds {
			for _, n := range append([]int{1, -1, 2, 256, 1000}, farInts()...) {
				out = append(out, impl.Expr{Kind: kind, A: n, Kids: kidsOf(kids)}, impl.Expr{Kind: kind, B: n, Kids: kidsOf(kids)}, impl.Expr{Kind: kind, A: n, B: n, Kids: kidsOf(kids)}, impl.Expr{Kind: kind, A: n, B: -n, Kids: kidsOf(kids)})
			}
		}
	}
	return out
}

// wrongKids are too many, or too few.
func wrongKids() []impl.Expr {
	var out []impl.Expr
	for kind, right := range []int{-1, 0, 1, 1, 0, 2, 2, 2, 2} {
		for _, kids := range []int{0, 1, 2, 3, 4, 14, 15, 100000} {
			if kids == right || kind == 0 {
				continue
			}
			out = append(out, impl.Expr{Kind: kind, B: numB(kind), Kids: kidsOf(kids)})
		}
		out = append(out, impl.Expr{Kind: kind, B: numB(kind), Kids: make([]impl.Expr, max(right, 1))})
	}
	return out
}

func numB(kind int) int {
	if kind == impl.ExprNum {
		return 1
	}
	return 0
}

// noExprs are wrong themselves, without what is too large.
func noExprs() []impl.Expr {
	return slices.Concat(wrongKinds(), wrongNums(), wrongSines(), wrongUntold(), wrongKids())
}

// asKid are all ways in which it can be a Kid, and some in which it is deep within.
func asKid(e impl.Expr) []impl.Expr {
	one, out := exprNum(1, 1), []impl.Expr{}
	for _, kind := range kindsOfOne() {
		out = append(out, exprOf(kind, e))
	}
	for _, kind := range kindsOfTwo() {
		out = append(out, exprOf(kind, e, one), exprOf(kind, one, e), exprOf(kind, e, e))
	}
	return append(out, exprRoot(exprMul(one, exprSub(exprNeg(exprAdd(e, one)), one))), exprMul(exprNum(0, 1), exprDiv(exprSine(0), exprRoot(exprRoot(exprNeg(e))))))
}

func TestExprThatIsNone(t *testing.T) {
	for _, no := range noExprs() {
		noneOfExpr(t, no)
	}
}

func TestExprEdgesByOne(t *testing.T) {
	for _, c := range []struct {
		e    impl.Expr
		want bool
	}{
		{exprNum(-1001, 1), false}, {exprNum(-1000, 1), true}, {exprNum(1000, 1), true}, {exprNum(1001, 1), false},
		{exprNum(1, 0), false}, {exprNum(1, 1), true}, {exprNum(1, 1000), true}, {exprNum(1, 1001), false},
		{exprSine(-turn - 1), false}, {exprSine(-turn), true}, {exprSine(turn), true}, {exprSine(turn + 1), false},
		{impl.Expr{Kind: impl.ExprSine, B: -1}, false}, {impl.Expr{Kind: impl.ExprSine}, true}, {impl.Expr{Kind: impl.ExprSine, B: 1}, false},
	} {
		for _, e := range []impl.Expr{c.e, exprNeg(c.e), exprMul(exprNum(1, 2), c.e), exprMul(c.e, exprNum(1, 2))} {
			if impl.ExprOk(e) != c.want || (impl.ExprText(e) != "") != c.want {
				t.Errorf("ExprOk(%v) is %v, its text %q", e, impl.ExprOk(e), impl.ExprText(e))
			}
		}
	}
}

func TestExprRoundToPartsOrByAWayThatIsNone(t *testing.T) {
	for _, e := range []impl.Expr{exprNum(0, 1), exprNum(1, 1), exprSine(twelfth), exprRoot(exprNum(1, 4)), exprSub(exprNum(1, 3), exprNum(1, 3)), exprNum(2, 1), exprDiv(exprNum(1, 1), exprNum(0, 1)), exprRow(15)} {
		for _, parts := range wrongParts() {
			for _, way := range append(wrongWays(), roundWays()...) {
				exprNotRounded(t, e, parts, way)
			}
		}
		for _, parts := range exprParts() {
			for _, way := range wrongWays() {
				exprNotRounded(t, e, parts, way)
			}
		}
	}
}

// withRoom has Kids that are ok behind the end of each list of Kids.
func withRoom(e impl.Expr) impl.Expr {
	kids := make([]impl.Expr, 0, len(e.Kids)+3)
	for _, kid := range e.Kids {
		kids = append(kids, withRoom(kid))
	}
	for i := len(kids); i < cap(kids); i++ {
		kids[:cap(kids)][i] = exprNum(7, 77)
	}
	e.Kids = kids
	return e
}

// allWithin are all numbers of it, how many Kids there are, and what is behind their ends.
func allWithin(e impl.Expr) []int {
	out := []int{e.Kind, e.A, e.B, len(e.Kids)}
	for _, kid := range e.Kids[:cap(e.Kids)] {
		out = append(out, allWithin(kid)...)
	}
	return out
}

type exprAnswer struct {
	ok, told, exact, sure bool
	s                     impl.Span
	over, under, n        int
	text                  string
}

func exprAnswers(e impl.Expr) exprAnswer {
	out := exprAnswer{ok: impl.ExprOk(e), text: impl.ExprText(e)}
	out.s, out.told = impl.ExprSpan(e)
	out.over, out.under, out.exact = impl.ExprRat(e)
	out.n, out.sure = impl.ExprRound(e, 1000, impl.RoundEven)
	return out
}

func TestExprIsNotWrittenInto(t *testing.T) {
	some := append(okExprs(), noExprs()...)
	for i := 0; i < len(some); i += 3 {
		if len(some[i].Kids) > 100 {
			continue
		}
		e := withRoom(some[i])
		before := allWithin(e)
		if got, want := exprAnswers(e), exprAnswers(some[i]); got != want {
			t.Errorf("of %v it is %v, with room behind %v", some[i], want, got)
		}
		if after := allWithin(e); !slices.Equal(after, before) {
			t.Errorf("%v was %v, and is %v", some[i], before, after)
		}
	}
}

func TestExprsAgainAndAtTheSameTime(t *testing.T) {
	exprs := okExprs()
	saysTheSameAgain(t, func() []exprAnswer {
		var out []exprAnswer
		for _, e := range exprs {
			out = append(out, exprAnswers(e))
		}
		return out
	})
}

func TestNothingRunsOnBehindTheAnswer(t *testing.T) {
	before := runtime.NumGoroutine()
	for _, e := range append(okExprs(), noExprs()...) {
		exprAnswers(e)
	}
	// What has ended is counted for a moment yet.
	for range 200 {
		if runtime.NumGoroutine() <= before {
			return
		}
		time.Sleep(10 * time.Millisecond)
	}
	t.Errorf("%d run, before it were %d", runtime.NumGoroutine(), before)
}
