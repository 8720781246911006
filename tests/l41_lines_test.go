package tests

import (
	"fmt"
	"math/big"
	"regexp"
	"slices"
	"strconv"
	"strings"
	"testing"

	"loop.example/alidade/impl"
)

const (
	notSure = "not sure"
	noWord  = "what"
	tooLong = "too long\n"
)

// The chapter's words, once more, by forms of words, and from the last word to the first.

var (
	numForm    = regexp.MustCompile(`\A(0|-?[1-9][0-9]{0,2}|-?1000)/([1-9][0-9]{0,2}|1000)\z`)
	figureForm = regexp.MustCompile(`(?s)\A([0-9]) (.+)\z`)
)

// exprInWords lays what was read aside, until a word ahead of it takes it.
func exprInWords(text string) (impl.Expr, bool) {
	words := strings.Split(text, " ")
	var aside []impl.Expr
	size := 0
	for i := len(words) - 1; i >= 0; i-- {
		e, taken, ok := wordInWords(words[:i+1], aside)
		if !ok {
			return impl.Expr{}, false
		}
		if e.Kind == impl.ExprSine {
			i--
		}
		aside = append(aside[:len(aside)-taken], e)
		size++
	}
	if len(aside) != 1 || size > impl.ExprMax {
		return impl.Expr{}, false
	}
	return aside[0], true
}

// wordInWords is what the last word is about, with the one ahead of an angle, and how many it takes of those that lie aside.
func wordInWords(words []string, aside []impl.Expr) (impl.Expr, int, bool) {
	last := words[len(words)-1]
	if found := numForm.FindStringSubmatch(last); found != nil {
		a, _ := strconv.Atoi(found[1])
		b, _ := strconv.Atoi(found[2])
		return exprNum(a, b), 0, true
	}
	if a, ok := readByForm(last); ok && len(words) > 1 && words[len(words)-2] == "sine" {
		return exprSine(a), 0, true
	}
	known := map[string]struct{ kind, taken int }{
		"neg": {impl.ExprNeg, 1}, "root": {impl.ExprRoot, 1}, "add": {impl.ExprAdd, 2}, "sub": {impl.ExprSub, 2}, "mul": {impl.ExprMul, 2}, "div": {impl.ExprDiv, 2},
	}
	word, is := known[last]
	if !is || len(aside) < word.taken {
		return impl.Expr{}, 0, false
	}
	kids := slices.Clone(aside[len(aside)-word.taken:])
	slices.Reverse(kids)
	return exprOf(word.kind, kids...), word.taken, true
}

// decimalInWords leaves the point, and the sign, to fractions.
func decimalInWords(e impl.Expr, behind int) string {
	s, ok := spanInWords(e)
	if !ok {
		return "none"
	}
	many := int64(1)
	for range behind {
		many *= 10
	}
	n := exactly(big.NewRat(int64(s.Low)*many, unit), impl.RoundEven)
	if exactly(big.NewRat(int64(s.High)*many, unit), impl.RoundEven) != n {
		return notSure
	}
	return big.NewRat(int64(n), many).FloatString(behind)
}

// distInWords needs a fan of both places; those that are told already are kept with their sines.
func (k sinesKept) distInWords(p impl.Spot, q impl.Spot) string {
	f := k.dist(clippedInWords(k.sumInWords(p, q)))
	seconds := exactly(big.NewRat(int64(f.Low), 100), impl.RoundEven)
	if exactly(big.NewRat(int64(f.High), 100), impl.RoundEven) != seconds {
		return notSure
	}
	return fmt.Sprintf("%dd%02dm%02d.00s", seconds/3600, seconds/60%60, seconds%60)
}

func (k sinesKept) answer(line string) string {
	if found := figureForm.FindStringSubmatch(line); found != nil {
		if e, ok := exprInWords(found[2]); ok {
			behind, _ := strconv.Atoi(found[1])
			return decimalInWords(e, behind)
		}
		return noWord
	}
	words := strings.Split(line, " ")
	if words[0] != "dist" || len(words) != 5 {
		return noWord
	}
	var angles [4]int
	for i, word := range words[1:] {
		a, ok := readByForm(word)
		if !ok || i%2 == 0 && max(a, -a) > quart || i%2 == 1 && (a < 0 || a == turn) {
			return noWord
		}
		angles[i] = a
	}
	return k.distInWords(spot(angles[0], angles[1]), spot(angles[2], angles[3]))
}

func (k sinesKept) lines(text string) string {
	if len(text) > 600 {
		return tooLong
	}
	out := ""
	for line := range strings.SplitSeq(text, "\n") {
		if line != "" {
			out += k.answer(line) + "\n"
		}
	}
	return out
}

func sameExpr(e impl.Expr, f impl.Expr) bool {
	return e.Kind == f.Kind && e.A == f.A && e.B == f.B && slices.EqualFunc(e.Kids, f.Kids, sameExpr)
}

func isNothing(e impl.Expr) bool {
	return sameExpr(e, impl.Expr{})
}

// readsInWords holds what is read against the chapter's words, and against its text.
func readsInWords(t *testing.T, text string) bool {
	t.Helper()
	e, ok := impl.ExprRead(text)
	want, told := exprInWords(text)
	if ok != told || !sameExpr(e, want) {
		t.Errorf("ExprRead(%q) is %v, %v, want %v, %v", text, e, ok, want, told)
	}
	if ok && impl.ExprText(e) != text {
		t.Errorf("ExprRead(%q) is %v, whose text is %q", text, e, impl.ExprText(e))
	}
	return ok
}

func linesAre(t *testing.T, text string, want string) {
	t.Helper()
	if got := impl.LinesRun(text); got != want {
		t.Errorf("LinesRun(%q) is %q, want %q", text, got, want)
	}
}

func notRead(t *testing.T, text string) {
	t.Helper()
	if e, ok := impl.ExprRead(text); ok || !isNothing(e) {
		t.Errorf("ExprRead(%.80q) is %v, %v", text, e, ok)
	}
}

func distLine(p impl.Spot, q impl.Spot) string {
	return "dist " + impl.SpotText(p) + " " + impl.SpotText(q)
}

// someTexts are of each kind, one within the other, small ones and large ones.
func someTexts() []string {
	return []string{
		"0/1", "1/2", "-1/2", "1000/1000", "-1000/1", "999/7", "-10/10", "7/100", "100/999",
		"sine 0d00m00.00s", "sine 12d37m36.78s", "sine -12d37m36.78s", "sine 360d00m00.00s", "sine -360d00m00.00s", "sine -0d00m00.01s",
		"neg 1/2", "root 1/2", "neg neg 1/2", "root neg -1/2", "neg sine 30d00m00.00s", "root sine 30d00m00.00s",
		"add 1/2 1/3", "sub 1/2 1/3", "mul 1/2 1/3", "div 1/2 1/3", "add sine 1d00m00.00s root 1/2", "div neg 1/2 sine -90d00m00.00s",
		"add sub mul div 1/2 1/3 1/4 1/5 1/6", "add 1/2 sub 1/3 mul 1/4 div 1/5 1/6", "root div mul 1/3 1/4 neg neg root 1/2", "sub add 0/1 -3/4 root mul sine 45d00m00.00s sine 45d00m00.00s",
		"neg neg neg neg neg neg neg neg neg neg neg neg neg neg 1/2",
		"add add add 1/10 2/10 add 3/10 4/10 add add 5/10 6/10 add 7/10 8/10",
	}
}

// someLines are of each kind, with each answer.
func someLines() []string {
	out := []string{
		"dist 10d00m00.00s 20d00m00.00s 50d00m00.00s 20d00m00.00s", "dist -10d00m00.00s 0d00m00.00s 50d00m00.00s 359d59m59.99s", "dist 0d00m00.00s 0d00m00.00s 0d00m01.00s 0d00m00.00s", "dist 10d00m00.00s 20d00m00.00s 50d00m00.00s 360d00m00.00s", "dist",
		"3 add 1/1 1/1", "0 root -1/2", "9 1/3", "0 add 1/6 1/3", "3 1/0", "1 ", "what", " ", "\r", "\x00", "none", notSure, "too long", "3", "33 1/2", "-1 1/2",
	}
	for i, text := range someTexts() {
		out = append(out, strconv.Itoa(i%10)+" "+text)
	}
	return out
}

// bent are all texts that come of one by a byte, or a word.
func bent(text string) []string {
	out := nearly(text)
	for at := range len(text) {
		out = append(out, text[:at]+strings.ToUpper(text[at:at+1])+text[at+1:], text[:at]+text[at:at+1]+text[at:], text[at:])
	}
	words := strings.Split(text, " ")
	for at := range words {
		behind := slices.Clone(words[at+1:])
		for _, others := range [][]string{{}, {"neg"}, {"sine"}, {"add"}, {"1/2"}, {"0/1"}, {"-0/1"}, {"1/0"}, {"1001/1"}, {"1/1001"}, {"12d37m36.78s"}, {"dist"}, {"3"}, {""}, {words[at], ""}, {words[at], words[at]}, {words[at], "1/2"}, {"root", words[at]}} {
			out = append(out, strings.Join(slices.Concat(words[:at], others, behind), " "))
		}
	}
	return out
}

func TestLinesConstants(t *testing.T) {
	if impl.LinesMax != 600 {
		t.Errorf("LinesMax is %d", impl.LinesMax)
	}
}

func TestExprReadByHand(t *testing.T) {
	num, sine := exprNum(1, 2), exprSine(4545678)
	for text, want := range map[string]impl.Expr{
		"0/1":                                exprNum(0, 1),
		"0/1000":                             exprNum(0, 1000),
		"2/4":                                exprNum(2, 4),
		"-2/4":                               exprNum(-2, 4),
		"1000/1":                             exprNum(1000, 1),
		"-1000/1000":                         exprNum(-1000, 1000),
		"sine 0d00m00.00s":                   exprSine(0),
		"sine -0d00m00.01s":                  exprSine(-1),
		"sine 12d37m36.78s":                  sine,
		"sine 360d00m00.00s":                 exprSine(turn),
		"sine -360d00m00.00s":                exprSine(-turn),
		"neg 1/2":                            exprNeg(num),
		"root -1/2":                          exprRoot(exprNum(-1, 2)),
		"add 1/2 3/4":                        exprAdd(num, exprNum(3, 4)),
		"sub 1/2 3/4":                        exprSub(num, exprNum(3, 4)),
		"mul 3/4 1/2":                        exprMul(exprNum(3, 4), num),
		"div 1/2 0/1":                        exprDiv(num, exprNum(0, 1)),
		"add sine 12d37m36.78s neg 1/2":      exprAdd(sine, exprNeg(num)),
		"add sub 1/1 2/1 3/1":                exprAdd(exprSub(exprNum(1, 1), exprNum(2, 1)), exprNum(3, 1)),
		"add 1/1 sub 2/1 3/1":                exprAdd(exprNum(1, 1), exprSub(exprNum(2, 1), exprNum(3, 1))),
		"neg root neg sine 12d37m36.78s":     exprNeg(exprRoot(exprNeg(sine))),
		"root div mul 1/2 1/2 neg root 1/2":  exprRoot(exprDiv(exprMul(num, num), exprNeg(exprRoot(num)))),
		"div root sine 12d37m36.78s neg 1/2": exprDiv(exprRoot(sine), exprNeg(num)),
	} {
		if e, ok := impl.ExprRead(text); !ok || !sameExpr(e, want) {
			t.Errorf("ExprRead(%q) is %v, %v, want %v", text, e, ok, want)
		}
	}
}

func TestPromise93ReadBackFromItsText(t *testing.T) {
	for _, e := range okExprs() {
		text := impl.ExprText(e)
		if read, ok := impl.ExprRead(text); !ok || !sameExpr(read, e) {
			t.Errorf("ExprRead(%q) is %v, %v, want %v", text, read, ok, e)
		}
	}
}

func TestPromise93EachNumberAndEachPartOfAnAngle(t *testing.T) {
	for n := -1010; n <= 1010; n++ {
		over, under := fmt.Sprintf("%d/7", n), fmt.Sprintf("7/%d", n)
		if readsInWords(t, over) != (n >= -1000 && n <= 1000) || readsInWords(t, under) != (n >= 1 && n <= 1000) {
			t.Errorf("%q or %q is read, or is not", over, under)
		}
	}
	for _, a := range turnAngles() {
		if !readsInWords(t, "sine "+impl.AngText(a)) {
			t.Errorf("the sine of %d is not read", a)
		}
	}
}

func TestPromise94JustOneText(t *testing.T) {
	read, not := 0, 0
	textOf := map[string]string{}
	for _, text := range someTexts() {
		if !readsInWords(t, text) {
			t.Errorf("%q is not read", text)
		}
		for _, other := range bent(text) {
			if !readsInWords(t, other) {
				not++
				continue
			}
			read++
			e, _ := impl.ExprRead(other)
			all := fmt.Sprint(allWithin(e))
			if known, is := textOf[all]; is && known != other {
				t.Errorf("%q and %q are read as the same", known, other)
			}
			textOf[all] = other
		}
	}
	enough(t, "read", read, 1000)
	enough(t, "not read", not, 30000)
}

// Each of these has the same worth as a text that is right, or is nearly one.
func TestPromise94OtherTextsOfTheSame(t *testing.T) {
	for right, others := range map[string][]string{
		"1/2":                  {" 1/2", "1/2 ", "  1/2", "1 /2", "1/ 2", "1 / 2", "01/2", "001/2", "1/02", "1/0002", "+1/2", "1/+2", "--1/2", "-1/-2", "1//2", "1/2/1", "/1/2", "1/2/", "1\\2", "1:2", "1÷2", "0.5", ".5", "1", "1/", "/2", "1/2.", "1,/2", "0x1/2", "1e0/2", "1_0/20", "１/2", "½", "1/2\n", "\n1/2", "1/2\r", "1/2\x00", "\t1/2", "1/2\t", "1/2\xff", "\ufeff1/2", "(1/2)"},
		"0/1":                  {"-0/1", "+0/1", "00/1", "0/01", "0/0", "0/-1", "0", "", "/", "0/1 0/1"},
		"-1/2":                 {"1/-2", "−1/2", "- 1/2", "-01/2", "neg1/2", "-+1/2", "0-1/2"},
		"1000/1000":            {"1001/1000", "1000/1001", "-1001/1000", "1,000/1000", "1e3/1000", "9223372036854775808/1000", "-9223372036854775809/1", "18446744073709552616/1000", "1000/18446744073709552616"},
		"neg 1/2":              {"neg  1/2", " neg 1/2", "neg 1/2 ", "neg\t1/2", "neg\n1/2", "NEG 1/2", "Neg 1/2", "neg", "neg ", "neg 1/2 1/2", "neg(1/2)", "1/2 neg", "ne 1/2", "nega 1/2", "neg -0/1", "minus 1/2"},
		"root 1/2":             {"root", "root  1/2", "root 1/2 ", "Root 1/2", "rooT 1/2", "sqrt 1/2", "root 1/2 1/3", "root root", "roots 1/2", "root of 1/2"},
		"add 1/2 1/3":          {"add", "add 1/2", "add 1/2 ", "add  1/2 1/3", "add 1/2  1/3", "add 1/2 1/3 ", "add 1/2 1/3 1/4", "Add 1/2 1/3", "ADD 1/2 1/3", "1/2 add 1/3", "1/2 1/3 add", "add 1/2, 1/3", "add 1/2\t1/3", "ad 1/2 1/3", "plus 1/2 1/3", "+ 1/2 1/3", "add1/2 1/3", "add 1/21/3", "add neg 1/2"},
		"sine 12d37m36.78s":    {"sine", "sine ", "sine  12d37m36.78s", "sine 12d37m36.78s ", "Sine 12d37m36.78s", "sin 12d37m36.78s", "sine 012d37m36.78s", "sine +12d37m36.78s", "sine 12d37m36.7s", "sine 12D37m36.78s", "sine 4545678", "sine 1/2", "sine neg 12d37m36.78s", "12d37m36.78s", "sine 12d37m36.78s 1/2", "neg 12d37m36.78s", "sine sine 12d37m36.78s", "cos 12d37m36.78s"},
		"sine 360d00m00.00s":   {"sine 360d00m00.01s", "sine -360d00m00.01s", "sine 361d00m00.00s", "sine -0d00m00.00s", "sine 0d60m00.00s"},
		"div root 1/2 neg 1/3": {"div root 1/2 neg", "div root neg 1/3", "root 1/2 neg 1/3", "div root 1/2 neg 1/3 neg", "div root 1/2 neg 1/3 1/4", "div  root 1/2 neg 1/3", "div root 1/2 neg 1/3\n", "div root 1/2 neg 1/3 div", "1 div root 1/2 neg 1/3", "1/2 div root 1/2 neg 1/3"},
	} {
		if !readsInWords(t, right) {
			t.Errorf("%q is not read", right)
		}
		for _, other := range others {
			notRead(t, other)
			if !strings.Contains(other, "\n") {
				linesAre(t, "2 "+other, "what\n")
			}
		}
	}
}

func TestExprReadOfTextsThatAreNone(t *testing.T) {
	for _, text := range []string{"", " ", "  ", "\n", "\x00", "\xff", "what", "dist", "none", "3 1/2", "expr 1/2", "pow 1/2 1/3", "nothing", "1/2 1/2", "()", "٣/٤", "½", "neg neg", "add add", "sine sine"} {
		notRead(t, text)
	}
	for _, text := range wrongTexts() {
		notRead(t, text)
		notRead(t, "sine "+text)
		notRead(t, "add 1/2 sine "+text)
		notRead(t, "add sine "+text+" 1/2")
	}
}

func TestExprReadOfEachByte(t *testing.T) {
	for b := range 256 {
		one := string([]byte{byte(b)})
		for _, text := range []string{"1/2", "-10/100", "neg 1/2", "sine 1d02m03.04s", "add 1/2 3/4"} {
			readsInWords(t, text+one)
			for at := range len(text) {
				readsInWords(t, text[:at]+one+text[at:])
				readsInWords(t, text[:at]+one+text[at+1:])
			}
		}
	}
}

// Just ExprMax in all is read, however it is spread, and one more is not.
func TestExprReadUpToExprMax(t *testing.T) {
	dice := exprDice(41)
	for range 500 {
		if !readsInWords(t, textInWords(dice.expr(impl.ExprMax, exprLeaves()))) {
			t.Error("ExprMax is too large")
		}
		for more := 1; more <= 4; more++ {
			text := textInWords(dice.expr(impl.ExprMax+more, tameLeaves()))
			notRead(t, text)
			linesAre(t, "2 "+text, "what\n")
		}
	}
	for size := 1; size <= 40; size++ {
		if readsInWords(t, textInWords(exprRow(size))) != (size <= impl.ExprMax) {
			t.Errorf("a row of %d is read, or is not", size)
		}
		if readsInWords(t, textInWords(exprSpread(size))) != (2*size-1 <= impl.ExprMax) {
			t.Errorf("spread, %d numbers are read, or are not", size)
		}
	}
}

// The longest text there is is far below LinesMax, so that all of LinesMax, or more, are none.
func TestExprReadUpToLinesMax(t *testing.T) {
	longest := exprSine(-turn)
	for range 3 {
		longest = exprAdd(longest, longest)
	}
	if text := impl.ExprText(longest); len(text) != 187 || !readsInWords(t, text) {
		t.Errorf("%q is not read, or has not 187 bytes", text)
	}
	for _, size := range []int{impl.LinesMax - 1, impl.LinesMax, impl.LinesMax + 1, 4 * impl.LinesMax} {
		for _, word := range []string{"neg ", "root ", "add ", "div ", "sine ", "1/2 ", " ", "0", "-", "1/2", "\n", "\x00"} {
			text := strings.Repeat(word, size/len(word)+1)
			notRead(t, text[:size])
			notRead(t, "1/2"+text[:size-3])
			notRead(t, text[:size-3]+"1/2")
			notRead(t, "neg 1/2 "+text[:size-8])
			notRead(t, text[len(text)-size+8:]+" neg 1/2")
		}
	}
}

// As many words, one within the other, as no list of calls would have room for.
func TestTextsWithoutABound(t *testing.T) {
	for _, word := range []string{"neg ", "add ", "1/2 ", " ", "sine ", "3\n"} {
		text := strings.Repeat(word, 20000000)
		notRead(t, text)
		notRead(t, text+"1/2")
		if got := impl.LinesRun("3 " + text); got != tooLong {
			t.Errorf("%q again and again is answered with %.80q", word, got)
		}
	}
}

// eachPlace are all places of lists of Kids, those behind their ends, too.
func eachPlace(e impl.Expr, do func(place *impl.Expr)) {
	all := e.Kids[:cap(e.Kids)]
	for i := range all {
		do(&all[i])
	}
	for _, kid := range e.Kids {
		eachPlace(kid, do)
	}
}

func TestExprReadIsNewMemory(t *testing.T) {
	for _, text := range someTexts() {
		seen := map[*impl.Expr]bool{}
		for range 2 {
			e, ok := impl.ExprRead(text)
			if !ok || impl.ExprText(e) != text {
				t.Errorf("ExprRead(%q) is %v, %v", text, e, ok)
			}
			var places []*impl.Expr
			eachPlace(e, func(place *impl.Expr) { places = append(places, place) })
			for _, place := range places {
				if seen[place] {
					t.Errorf("two lists of ExprRead(%q) share a place", text)
				}
				seen[place] = true
				*place = exprNum(7, 77)
			}
		}
	}
}

func TestLinesByHand(t *testing.T) {
	for _, c := range []struct{ text, want string }{
		{"", ""},
		{"\n", ""},
		{"0 1/2", "0\n"},
		{"0 1/2\n", "0\n"},
		{"\n\n0 1/2\n\n", "0\n"},
		{"3 div 1/3 1/2\n0 1/2\n9 neg 1/4\n2 root 1/2\n", "0.667\n0\n-0.250000000\n0.71\n"},
		{"2 add 1/1 1/1\n4 sine 30d00m00.00s", "none\n0.5000\n"},
		{"dist 10d00m00.00s 20d00m00.00s 50d00m00.00s 20d00m00.00s\n9 1/3\n8 1/3", "40d00m00.00s\nnot sure\n0.33333333\n"},
		{"what\n3 1/0\n 3 1/2\n3 1/2", "what\nwhat\nwhat\n0.500\n"},
		{"dist\ndist 1\n1 dist", "what\nwhat\nwhat\n"},
		{"1 1/2\r\n1 1/2\n", "what\n0.5\n"},
		{"1 1/2 1 1/2", "what\n"},
	} {
		linesAre(t, c.text, c.want)
	}
}

// decimals are what is reckoned, and how it is told, with as many figures behind the point as it begins with.
func decimals() []struct{ line, want string } {
	part := "mul mul 1/1000 1/1000 1/1000"
	return []struct{ line, want string }{
		{"0 0/1", "0"}, {"1 0/7", "0.0"}, {"9 0/1000", "0.000000000"}, {"3 neg 0/1", "0.000"}, {"5 sub 1/2 1/2", "0.00000"},
		{"0 1/1", "1"}, {"1 1/1", "1.0"}, {"9 1/1", "1.000000000"}, {"0 -1/1", "-1"}, {"9 -1/1", "-1.000000000"}, {"2 1000/1000", "1.00"}, {"0 neg 1/1", "-1"},
		{"0 2/3", "1"}, {"0 1/3", "0"}, {"0 -1/3", "0"}, {"0 -2/3", "-1"}, {"0 neg 1/3", "0"}, {"2 -1/1000", "0.00"}, {"1 neg 1/25", "0.0"}, {"2 -1/150", "-0.01"},
		{"1 1/3", "0.3"}, {"2 1/3", "0.33"}, {"3 1/3", "0.333"}, {"4 1/3", "0.3333"}, {"5 1/3", "0.33333"}, {"6 1/3", "0.333333"}, {"7 1/3", "0.3333333"}, {"8 1/3", "0.33333333"}, {"9 1/3", notSure},
		{"1 -2/3", "-0.7"}, {"2 -2/3", "-0.67"}, {"8 -2/3", "-0.66666667"}, {"9 -2/3", notSure},
		{"3 1/100", "0.010"}, {"9 1/1000", "0.001000000"}, {"9 -1/1000", "-0.001000000"}, {"4 1/1000", "0.0010"}, {"3 1/1000", "0.001"}, {"9 1/2", "0.500000000"}, {"2 -1/20", "-0.05"}, {"9 mul 1/1000 1/1000", "0.000001000"},
		{"9 " + part, "0.000000001"}, {"9 neg " + part, "-0.000000001"}, {"8 " + part, "0.00000000"}, {"8 neg " + part, "0.00000000"}, {"0 " + part, "0"}, {"9 sub 1/1 " + part, "0.999999999"}, {"8 sub 1/1 " + part, "1.00000000"}, {"9 sub " + part + " 1/1", "-0.999999999"}, {"9 add 1/1 " + part, "1.000000001"},
		// Just between two, and one part beside.
		{"0 1/2", "0"}, {"0 -1/2", "0"}, {"0 add 1/2 " + part, "1"}, {"0 sub 1/2 " + part, "0"}, {"0 neg add 1/2 " + part, "-1"}, {"0 sub " + part + " 1/2", "0"},
		{"1 1/20", "0.0"}, {"1 3/20", "0.2"}, {"1 1/4", "0.2"}, {"1 7/20", "0.4"}, {"1 -1/20", "0.0"}, {"1 -3/20", "-0.2"}, {"1 -1/4", "-0.2"}, {"1 19/20", "1.0"}, {"1 17/20", "0.8"},
		{"1 add 1/4 " + part, "0.3"}, {"1 sub 1/4 " + part, "0.2"}, {"1 add 3/20 " + part, "0.2"}, {"1 sub 3/20 " + part, "0.1"}, {"1 sub -1/4 " + part, "-0.3"}, {"1 add -1/4 " + part, "-0.2"}, {"1 sub -1/20 " + part, "-0.1"}, {"1 add -1/20 " + part, "0.0"},
		{"2 1/200", "0.00"}, {"2 3/200", "0.02"}, {"2 sub 3/200 " + part, "0.01"}, {"8 mul mul 1/200 1/1000 1/1000", "0.00000000"}, {"8 mul mul 3/200 1/1000 1/1000", "0.00000002"}, {"8 mul mul 4/1000 1/1000 1/1000", "0.00000000"}, {"8 mul mul 6/1000 1/1000 1/1000", "0.00000001"},
		{"0 add 1/6 1/3", notSure}, {"1 mul 1/3 3/4", notSure}, {"9 root 1/2", notSure}, {"8 root 1/2", "0.70710678"}, {"0 root 1/2", "1"}, {"9 root 1/4", "0.500000000"}, {"9 add 1/3 2/3", notSure}, {"8 add 1/3 2/3", "1.00000000"}, {"9 sub 1/3 1/3", notSure}, {"8 sub 1/3 1/3", "0.00000000"},
		{"9 sine 30d00m00.00s", "0.500000000"}, {"9 sine -90d00m00.00s", "-1.000000000"}, {"9 sine 180d00m00.00s", "0.000000000"}, {"9 sine 12d00m00.00s", notSure}, {"8 sine 12d00m00.00s", "0.20791169"}, {"7 sine 12d00m00.00s", "0.2079117"}, {"0 sine 12d00m00.00s", "0"}, {"7 sine -12d00m00.00s", "-0.2079117"}, {"0 sine -360d00m00.00s", "0"},
		// The greatest there is, and one part more.
		{"9 add 1/1 73/1000", "1.073000000"}, {"0 add 1/1 73/1000", "1"}, {"1 add 1/1 73/1000", "1.1"}, {"2 add 1/1 73/1000", "1.07"}, {"9 sub -1/1 73/1000", "-1.073000000"}, {"9 add add 1/1 73/1000 " + part, "none"}, {"0 sub sub -1/1 73/1000 " + part, "none"},
		{"3 1000/932", "1.073"}, {"3 1000/931", "none"}, {"0 2/1", "none"}, {"9 -1000/1", "none"}, {"0 mul 2/1 0/1", "none"}, {"0 sub 2/1 2/1", "none"}, {"3 add 1/1 1/1", "none"},
		{"3 root -1/2", "none"}, {"3 root neg 1/2", "none"}, {"9 root sub 1/3 1/3", "none"}, {"3 div 1/2 0/1", "none"}, {"3 div 0/1 0/1", "none"}, {"3 div 1/2 sub 1/3 1/3", "none"}, {"3 div 1/2 sine 0d00m00.00s", "none"}, {"3 neg neg root neg 1/2", "none"}, {"0 div 1/1 " + part, "none"},
	}
}

func TestLinesOfWhatIsReckonedByHand(t *testing.T) {
	for _, c := range decimals() {
		linesAre(t, c.line, c.want+"\n")
		linesAre(t, c.line+"\n", c.want+"\n")
	}
}

func TestLinesJustAsTheWordsSay(t *testing.T) {
	kept := sinesKept{}
	answers := map[string]int{}
	for i, e := range okExprs() {
		text := impl.ExprText(e)
		for _, behind := range []int{0, 9, 1 + i%8} {
			line := strconv.Itoa(behind) + " " + text
			want := kept.answer(line)
			linesAre(t, line, want+"\n")
			answers[want]++
		}
	}
	enough(t, "none", answers["none"], 1000)
	enough(t, notSure, answers[notSure], 1000)
	if answers[noWord] > 0 || len(answers) < 2000 {
		t.Errorf("%d are not read, there are %d answers", answers[noWord], len(answers))
	}
}

// What is told is what each number of the span is rounded to, and is told with just so many figures.
func TestLinesTellAsManyFigures(t *testing.T) {
	form := regexp.MustCompile(`\A-?[01](\.[0-9]+)?\z`)
	told := 0
	for i, e := range okExprs() {
		behind := i % 10
		answer := strings.TrimSuffix(impl.LinesRun(strconv.Itoa(behind)+" "+impl.ExprText(e)), "\n")
		parts := unit
		for range behind {
			parts /= 10
		}
		n, ok := impl.ExprRound(e, parts, impl.RoundEven)
		if !ok {
			if answer != "none" && answer != notSure {
				t.Errorf("%s to %d figures is %q", impl.ExprText(e), behind, answer)
			}
			continue
		}
		told++
		figures := strings.Replace(answer, ".", "", 1)
		if got, err := strconv.Atoi(figures); err != nil || got != n || !form.MatchString(answer) || strings.HasPrefix(answer, "-") != (n < 0) || len(strings.TrimPrefix(figures, "-")) != behind+1 {
			t.Errorf("%s to %d figures is %q, of %d", impl.ExprText(e), behind, answer, n)
		}
	}
	enough(t, "told", told, 3000)
}

func TestLinesWithoutAFigure(t *testing.T) {
	for _, figure := range []string{"", " ", "a", "d", "-", "+", ".", "/", ":", "-1", "+1", "00", "01", "10", "19", "99", "1.0", "0x1", "1e0", "٣", "３", "½", "²", "\xff", "\x00", "\x01", "\x09", "N", "dist", "1/2", "Ⅲ", "\ufeff1"} {
		linesAre(t, figure+" 1/2", "what\n")
		linesAre(t, figure+" 1/2\n"+"1 1/2", "what\n0.5\n")
	}
	for _, line := range []string{"1", "1 ", "1  ", "1  1/2", "1 1/2 ", " 1 1/2", "1\t1/2", "11/2", "11/2 1/2", "1/2", "1 1", "1 1 1/2", "1 1 1 1/2", "1\x001/2", "1,1/2", "1: 1/2", "neg 1/2", "root 1/2", "sine 30d00m00.00s"} {
		linesAre(t, line, "what\n")
	}
	for figure := range 10 {
		n := strconv.Itoa(figure)
		linesAre(t, n+"\n"+n+" \n"+n+n, "what\nwhat\nwhat\n")
		if got, want := impl.LinesRun(n+" 1/1"), strings.TrimSuffix("1."+strings.Repeat("0", figure), ".")+"\n"; got != want {
			t.Errorf("one to %d figures is %q, want %q", figure, got, want)
		}
	}
}

func TestDistByHand(t *testing.T) {
	for _, c := range []struct{ places, want string }{
		{"10d00m00.00s 20d00m00.00s 50d00m00.00s 20d00m00.00s", "40d00m00.00s"},
		{"-10d00m00.00s 20d00m00.00s 50d00m00.00s 20d00m00.00s", "60d00m00.00s"},
		{"0d00m00.00s 350d00m00.00s 0d00m00.00s 10d00m00.00s", "20d00m00.00s"},
		{"0d00m00.00s 10d00m00.00s 0d00m00.00s 350d00m00.00s", "20d00m00.00s"},
		{"0d00m00.00s 0d00m00.00s 30d00m30.53s 0d00m00.00s", "30d00m31.00s"},
		{"0d00m00.00s 0d00m00.00s 30d00m30.47s 0d00m00.00s", "30d00m30.00s"},
		{"0d00m00.00s 0d00m00.00s 30d00m30.50s 0d00m00.00s", notSure},
		{"52d32m43.92s 12d37m36.78s 48d27m48.96s 2d18m36.00s", "7d43m01.00s"},
		// The place itself, and the ends all around.
		{"10d00m00.00s 20d00m00.00s 10d00m00.00s 20d00m00.00s", "0d00m00.00s"},
		{"-12d37m36.78s 359d59m59.99s -12d37m36.78s 359d59m59.99s", "0d00m00.00s"},
		{"90d00m00.00s 0d00m00.00s 90d00m00.00s 123d00m00.00s", "0d00m00.00s"},
		{"-90d00m00.00s 0d00m00.00s -90d00m00.00s 359d59m59.99s", "0d00m00.00s"},
		{"45d00m00.00s 0d00m00.00s 90d00m00.00s 123d00m00.00s", "45d00m00.00s"},
		{"0d00m00.00s 350d00m00.00s -90d00m00.00s 10d00m00.00s", "90d00m00.00s"},
		// The opposite place, or one that is nearly so, or nearly the same.
		{"0d00m00.00s 0d00m00.00s 0d00m00.00s 180d00m00.00s", "180d00m00.00s"},
		{"90d00m00.00s 0d00m00.00s -90d00m00.00s 5d00m00.00s", "180d00m00.00s"},
		{"10d00m00.00s 20d00m00.00s -10d00m00.00s 200d00m00.00s", notSure},
		{"0d00m00.00s 0d00m00.00s 0d00m00.00s 179d00m00.00s", "179d00m00.00s"},
		{"0d00m00.00s 0d00m00.00s 0d00m00.00s 0d00m00.01s", notSure},
		{"0d00m00.00s 0d00m00.00s 0d00m01.00s 0d00m00.00s", notSure},
	} {
		linesAre(t, "dist "+c.places, c.want+"\n")
	}
}

func TestPromise97WholeSecondsIfThatIsSure(t *testing.T) {
	kept := sinesKept{}
	told, not := 0, 0
	eachSpotPair(someSpots(), func(p impl.Spot, q impl.Spot) {
		answer := strings.TrimSuffix(impl.LinesRun(distLine(p, q)), "\n")
		if want := kept.distInWords(p, q); answer != want {
			t.Errorf("how far it is from %v to %v is %q, want %q", p, q, answer, want)
		}
		seconds, ok := impl.SpotRound(p, q, 100, impl.RoundEven)
		if !ok {
			not++
			if answer != notSure {
				t.Errorf("how far it is from %v to %v is not sure, but %q", p, q, answer)
			}
			return
		}
		told++
		if a, ok := impl.AngRead(answer); !ok || a != 100*seconds || a%100 != 0 || a < 0 || a > half {
			t.Errorf("how far it is from %v to %v is %q, of %d seconds", p, q, answer, seconds)
		}
	})
	enough(t, "told", told, 1000)
	enough(t, notSure, not, 50)
}

// Straight up, over the end, and around the middle it is known how far it is.
func TestPromise97WhatIsToldIsTrue(t *testing.T) {
	told := 0
	hold := func(p impl.Spot, q impl.Spot, far int) {
		answer := impl.LinesRun(distLine(p, q))
		if answer == notSure+"\n" {
			return
		}
		told++
		if want := impl.AngText(100*exactly(big.NewRat(int64(far), 100), impl.RoundEven)) + "\n"; answer != want {
			t.Errorf("how far it is from %v to %v is %q, want %q", p, q, answer, want)
		}
	}
	for _, up := range spotUps() {
		for _, other := range append(quartAngles(), spotUps()...) {
			hold(spot(up, 4545678), spot(other, 4545678), max(up-other, other-up))
			hold(spot(up, 0), spot(other, half), half-max(up+other, -up-other))
		}
	}
	for _, around := range spotArounds() {
		for _, a := range someAngles() {
			other := ((around+a)%turn + turn) % turn
			d := mustDiff(t, around, other)
			hold(spot(0, around), spot(0, other), max(d, -d))
		}
	}
	enough(t, "told", told, 1000)
}

func TestDistOfPlacesThatAreNone(t *testing.T) {
	ok := "10d00m00.00s 20d00m00.00s"
	for _, no := range []string{
		"90d00m00.01s 20d00m00.00s", "-90d00m00.01s 20d00m00.00s", "91d00m00.00s 0d00m00.00s", "180d00m00.00s 0d00m00.00s", "-360d00m00.00s 0d00m00.00s", "360d00m00.00s 0d00m00.00s",
		"10d00m00.00s 360d00m00.00s", "90d00m00.00s 360d00m00.00s", "10d00m00.00s -0d00m00.01s", "10d00m00.00s -20d00m00.00s", "10d00m00.00s -360d00m00.00s", "90d00m00.01s 360d00m00.00s",
		"", " ", "10d00m00.00s", "10d00m00.00s ", " 20d00m00.00s", "10d00m00.00s  20d00m00.00s", "10d00m00.00s\t20d00m00.00s", "10d00m00.00s20d00m00.00s", "10d00m00.00s 20d00m00.00s 30d00m00.00s", "10 20", "1/2 1/3", "sine 10d00m00.00s", "10d00m00.00s, 20d00m00.00s", "dist dist",
	} {
		linesAre(t, "dist "+no+" "+ok, "what\n")
		linesAre(t, "dist "+ok+" "+no, "what\n")
		linesAre(t, "dist "+no+" "+no, "what\n")
	}
	for _, wrong := range wrongTexts() {
		if strings.Contains(wrong, "\n") {
			continue
		}
		for _, places := range []string{wrong + " 20d00m00.00s " + ok, "10d00m00.00s " + wrong + " " + ok, ok + " " + wrong + " 20d00m00.00s", ok + " 10d00m00.00s " + wrong} {
			linesAre(t, "dist "+places, "what\n")
		}
	}
	for _, line := range []string{"dist", "dist ", "dist " + ok, "dist " + ok + " ", "dist " + ok + " 10d00m00.00s", "dist  " + ok + " " + ok, " dist " + ok + " " + ok, "dist " + ok + " " + ok + " ", "dist " + ok + " " + ok + " " + ok, "dist " + ok + "  " + ok, "Dist " + ok + " " + ok, "DIST " + ok + " " + ok, "dis " + ok + " " + ok, "dists " + ok + " " + ok, "dist" + ok + " " + ok, ok + " " + ok, "3 dist " + ok + " " + ok, "dist " + ok + " " + ok + "\r", "dist 3 " + ok + " " + ok} {
		linesAre(t, line, "what\n")
	}
}

// Each edge of both places, from the last that is one to the first that is none.
func TestDistEdgesByOne(t *testing.T) {
	for _, up := range []int{-quart - 1, -quart, quart, quart + 1} {
		for _, around := range []int{-1, 0, turn - 1, turn} {
			p := spot(up, around)
			place := impl.AngText(up) + " " + impl.AngText(around)
			for _, line := range []string{"dist " + place + " 0d00m00.00s 0d00m00.00s", "dist 0d00m00.00s 0d00m00.00s " + place} {
				want := "90d00m00.00s\n"
				if !impl.SpotOk(p) {
					want = "what\n"
				}
				linesAre(t, line, want)
			}
		}
	}
}

func TestLinesNearlyRight(t *testing.T) {
	kept := sinesKept{}
	what := 0
	for _, line := range someLines() {
		for _, text := range bent(line) {
			want := kept.lines(text)
			linesAre(t, text, want)
			if want == "what\n" {
				what++
			}
		}
	}
	enough(t, noWord, what, 10000)
}

func TestLinesOfEachByte(t *testing.T) {
	kept := sinesKept{}
	for b := range 256 {
		one := string([]byte{byte(b)})
		for _, line := range []string{"", "3 1/2", "0 neg 2/3", "5 sine 1d02m03.04s", "dist 1d00m00.00s 2d00m00.00s 3d00m00.00s 2d00m00.00s"} {
			for at := 0; at <= len(line); at++ {
				put := line[:at] + one + line[at:]
				linesAre(t, put, kept.lines(put))
				if at < len(line) {
					changed := line[:at] + one + line[at+1:]
					linesAre(t, changed, kept.lines(changed))
				}
			}
		}
	}
}

func TestPromise95EachLineByItself(t *testing.T) {
	lines := append(someLines(), "")
	alone := map[string]string{}
	for _, line := range lines {
		alone[line] = impl.LinesRun(line)
		if line != "" && (strings.Count(alone[line], "\n") != 1 || alone[line] == "\n") {
			t.Errorf("LinesRun(%q) is %q", line, alone[line])
		}
		linesAre(t, line+"\n", alone[line])
		linesAre(t, "\n"+line, alone[line])
	}
	for _, first := range lines {
		for _, second := range lines {
			linesAre(t, first+"\n"+second, alone[first]+alone[second])
		}
	}
	dice := exprDice(95)
	for range 2000 {
		text, want := "", ""
		for {
			line := lines[dice.below(len(lines))] + "\n"
			if len(text+line) > impl.LinesMax {
				break
			}
			text += line
			want += alone[strings.TrimSuffix(line, "\n")]
		}
		linesAre(t, text, want)
	}
}

func TestPromise96EmptyLinesSayNothing(t *testing.T) {
	for many := 0; many <= impl.LinesMax; many++ {
		linesAre(t, strings.Repeat("\n", many), "")
	}
	for _, line := range someLines() {
		want := impl.LinesRun(line)
		for _, many := range []int{1, 2, 7, 100} {
			empty := strings.Repeat("\n", many)
			linesAre(t, empty+line, want)
			linesAre(t, line+empty, want)
			linesAre(t, empty+line+empty+line+empty, want+want)
		}
	}
}

// A line of blanks, or of what is not printed, is not empty.
func TestLinesThatSeemEmpty(t *testing.T) {
	for _, line := range []string{" ", "  ", "\t", "\r", "\v", "\f", "\x00", "\u00a0", "\u2028", "\u0085", "\ufeff", "\xff", strings.Repeat(" ", impl.LinesMax)} {
		linesAre(t, line, "what\n")
	}
	linesAre(t, " \n\n \r\n\r", "what\nwhat\nwhat\n")
}

func TestLinesUpToLinesMax(t *testing.T) {
	ok := "10d00m00.00s 20d00m00.00s 50d00m00.00s 20d00m00.00s"
	for _, c := range []struct{ text, want string }{
		{strings.Repeat("0 1/2\n", 100), strings.Repeat("0\n", 100)},
		{strings.Repeat("0 1/2\n", 99) + "1 1/20", strings.Repeat("0\n", 99) + "0.0\n"},
		{strings.Repeat("9 1/2\n", 99) + "9 1/20", strings.Repeat("0.500000000\n", 99) + "0.050000000\n"},
		{strings.Repeat("\n", 595) + "0 1/1", "1\n"},
		{"0 1/1" + strings.Repeat("\n", 595), "1\n"},
		{strings.Repeat("\n", 600), ""},
		{strings.Repeat("x\n", 300), strings.Repeat("what\n", 300)},
		{strings.Repeat("x", 600), "what\n"},
		{strings.Repeat(" ", 600), "what\n"},
		{strings.Repeat("\x00", 600), "what\n"},
		{strings.Repeat("ä", 300), "what\n"},
		{"0 1/1" + strings.Repeat(" ", 595), "what\n"},
		{"2 " + strings.Repeat("neg ", 148) + " 1/22", "what\n"},
		{strings.Repeat("\n", 599-len("dist "+ok)) + "dist " + ok + "\n", "40d00m00.00s\n"},
	} {
		if len(c.text) != impl.LinesMax && c.want != "what\n" || len(c.text) > impl.LinesMax {
			t.Errorf("%q has %d bytes", c.text, len(c.text))
		}
		linesAre(t, c.text, c.want)
		for len(c.text) < impl.LinesMax {
			c.text += "\n"
		}
		for _, more := range []string{"\n", " ", "x", "\x00", "ä", "\n\n", "\n0 1/2"} {
			linesAre(t, c.text+more, tooLong)
			linesAre(t, more+c.text, tooLong)
		}
	}
	for _, text := range []string{strings.Repeat("ä", 301), strings.Repeat("\xff", 601), strings.Repeat("neg ", 150) + "1", "1 1/2\n" + strings.Repeat(" ", 595)} {
		linesAre(t, text, tooLong)
	}
}

func TestLinesAgainAndAtTheSameTime(t *testing.T) {
	lines := someLines()
	saysTheSameAgain(t, func() []string {
		var out []string
		for i := range lines {
			text := strings.Join(lines[i:min(i+8, len(lines))], "\n")
			e, ok := impl.ExprRead(strings.TrimLeft(lines[i], "0123456789 "))
			out = append(out, impl.LinesRun(text), fmt.Sprint(e, ok))
		}
		return out
	})
}

func FuzzExprRead(f *testing.F) {
	for _, text := range someTexts() {
		f.Add(text)
	}
	f.Fuzz(func(t *testing.T, text string) {
		readsInWords(t, text)
	})
}

func FuzzLines(f *testing.F) {
	f.Add(strings.Join(someLines()[:20], "\n"))
	for _, line := range someLines() {
		f.Add(line)
	}
	f.Fuzz(func(t *testing.T, text string) {
		linesAre(t, text, sinesKept{}.lines(text))
	})
}
