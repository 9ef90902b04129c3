package tests

import (
	"math/rand"
	"slices"
	"strconv"
	"strings"
	"testing"

	"loop.example/g00848/impl"
)

func TestValText(t *testing.T) {
	for _, c := range []struct {
		shape impl.Shape
		val   impl.Val
		want  string
	}{
		{flag, flagVal(0), "no"},
		{flag, flagVal(1), "yes"},
		{num, numVal(0), "0"},
		{num, numVal(7), "7"},
		{num, numVal(10), "10"},
		{num, numVal(999999), "999999"},
		{num, numVal(impl.MaxTime), "1000000"},
		{text, textVal(""), `""`},
		{text, textVal(" "), `" "`},
		{text, textVal("a,b"), `"a,b"`},
		{text, textVal(`])(\n`), `"])(\n"`},
		{text, textVal("~!'`"), "\"~!'`\""},
		{text, textVal(filledText(20)), `"` + filledText(20) + `"`},
		{pick("red", "green"), pickVal("green"), "green"},
		{pick("none", "some", "no", "yes"), pickVal("some"), "some"},
		{maybe(num), maybeVal(), "none"},
		{maybe(num), maybeVal(numVal(5)), "some(5)"},
		{maybe(maybe(num)), maybeVal(maybeVal()), "some(none)"},
		{maybe(pick("none")), maybeVal(), "none"},
		{maybe(pick("none")), maybeVal(pickVal("none")), "some(none)"},
		{list(num), listVal(), "[]"},
		{list(num), listVal(numVal(5)), "[5]"},
		{list(num), listVal(many(numVal(5), 6)...), "[5,5,5,5,5,5]"},
		{list(list(num)), listVal(listVal(), listVal(numVal(1), numVal(2))), "[[],[1,2]]"},
		{list(rec()), listVal(recVal(), recVal()), "[(),()]"},
		{rec(), recVal(), "()"},
		{rec(num), recVal(numVal(5)), "(5)"},
		{rec(num, list(maybe(text)), pick("red", "green")), recVal(numVal(5), listVal(maybeVal(), maybeVal(textVal("a,b"))), pickVal("green")), `(5,[none,some("a,b")],green)`},
		{rec(rec(rec(rec(flag)))), recVal(recVal(recVal(recVal(flagVal(1))))), "((((yes))))"},
	} {
		same(t, "ValText", impl.ValText(c.shape, c.val), c.want)
		sameValOut(t, c.want, impl.ValRead(c.shape, c.want), impl.ValOut{Val: c.val})
	}
}

// TestValsComeBack: promise 4, its first half.
func TestValsComeBack(t *testing.T) {
	r := rand.New(rand.NewSource(9))
	for range 3000 {
		s := someShape(r, 1+r.Intn(impl.MaxDeep))
		for _, v := range []impl.Val{someVal(r, s), impl.Blank(s)} {
			text := impl.ValText(s, v)
			same(t, "ValText", text, valWritten(s, v))
			want := impl.ValOut{Val: v}
			if len(text) > impl.MaxBytes {
				want = impl.ValOut{Code: impl.ErrSize}
			}
			got := impl.ValRead(s, text)
			sameValOut(t, text, got, want)
			same(t, "ValSame", impl.ValSame(got.Val, want.Val), true)
			same(t, "Fits", impl.Fits(s, got.Val), want.Code == impl.OK)
		}
	}
}

func TestNumbersByTheirDigits(t *testing.T) {
	for n := int64(0); n <= impl.MaxTime; n += 1 + n/50 {
		digits := strconv.Itoa(int(n))
		same(t, "ValText", impl.ValText(num, numVal(n)), digits)
		sameValOut(t, digits, impl.ValRead(num, digits), impl.ValOut{Val: numVal(n)})
		sameValOut(t, "0"+digits, impl.ValRead(num, "0"+digits), impl.ValOut{Code: impl.ErrSyntax})
	}
}

func TestValTextOfMaxBytes(t *testing.T) {
	for _, c := range []struct {
		size int
		code int64
	}{
		{impl.MaxBytes - 1, impl.OK},
		{impl.MaxBytes, impl.OK},
		{impl.MaxBytes + 1, impl.ErrSize},
		{impl.MaxBytes + 2000, impl.ErrSize},
		{29000, impl.ErrSize},
	} {
		v := sizedVal(c.size)
		text := impl.ValText(textLists, v)
		same(t, "ValText", text, valWritten(textLists, v))
		same(t, "its size", len(text), c.size)
		want := impl.ValOut{Code: c.code}
		if c.code == impl.OK {
			want.Val = v
		}
		sameValOut(t, "ValRead", impl.ValRead(textLists, text), want)
	}
}

// TestValReadOrder: more than MaxBytes ahead of a shape that is not right, and that ahead of the text.
func TestValReadOrder(t *testing.T) {
	most := filled(impl.MaxBytes)
	for what, s := range wrongShapes() {
		for where, s := range map[string]impl.Shape{"": s, "in a list: ": list(s), "in a maybe: ": maybe(s), "in a record: ": rec(num, s)} {
			for _, text := range []string{"", "0", "no", `""`, "a", "none", "some(0)", "[]", "[0]", "()", "(0)", "[[[[[0]]]]]", "(((((())))))", most} {
				sameValOut(t, where+what, impl.ValRead(s, text), impl.ValOut{Code: impl.ErrForm})
			}
			sameValOut(t, where+what, impl.ValRead(s, tooLong), impl.ValOut{Code: impl.ErrSize})
			sameValOut(t, where+what, impl.ValRead(s, times("0", impl.MaxBytes+1)), impl.ValOut{Code: impl.ErrSize})
		}
	}
	for _, c := range kinds() {
		sameValOut(t, c.what, impl.ValRead(c.shape, most), impl.ValOut{Code: impl.ErrSyntax})
		sameValOut(t, c.what, impl.ValRead(c.shape, tooLong), impl.ValOut{Code: impl.ErrSize})
	}
}

func TestValReadFaults(t *testing.T) {
	six := rec(num, num, num, num, num, num)
	for _, c := range []struct {
		shape impl.Shape
		wrong []string
	}{
		{flag, []string{"n", "ye", "yess", "noo", "no ", " no", "no\n", "yesno", "NO", "Yes", "0", "1", "true", `"no"`, "(no)", "flag"}},
		{num, []string{"00", "05", "000000", "-0", "-1", "+1", "1000001", "1000000 ", " 1", "1 ", "1.0", "1e3", "0x1", "1_0", "1,", "10000000", "9223372036854775807", "9223372036854775808", "18446744073709551617", times("1", 1000), times("0", 1000), "٣", "a", `"1"`, "(1)"}},
		{text, []string{`"`, `"a`, `a"`, "a", `"a"b`, `"a""b"`, `"""`, `""""`, `"\""`, "\"\x1f\"", "\"\x7f\"", "\"\n\"", "\"\x80\"", `"ä"`, `"` + filledText(21) + `"`, `"` + times("a", 1000) + `"`, ` ""`, `"" `, "''"}},
		{pick("red", "green"), []string{"r", "re", "redd", "redgreen", "red,green", "blue", "Red", "red ", " red", `"red"`, "0", "pick", "pick(red)"}},
		{maybe(num), []string{"non", "nonee", "none ", "none()", "some", "some(", "some()", "some(5", "some5)", "some(5))", "some (5)", "some( 5)", "some(5 )", "some(05)", "some(none)", "some(5,5)", "some(5)some(5)", "some[5]", "5", "(5)", "nonesome(5)", "None", "Some(5)", "some(1000001)"}},
		{maybe(maybe(num)), []string{"some(5)", "some(some(some(5)))", "some(some())", "some(some(5)"}},
		{list(num), []string{"[", "]", "[[", "[5", "5]", "5", "[5,", "[5,]", "[,5]", "[,]", "[5,,5]", "[5 ,5]", "[5, 5]", "[ 5]", "[5]]", "[[5]]", "[5][5]", "[5;5]", "[5 5]", "(5)", "[05]", "[no]", "[5,5,5,5,5,5,5]", "[" + times("5,", 2000) + "5]", times("[", 1000), "[1000001]", "[5,1000001]"}},
		{rec(), []string{"(", ")", "(()", "())", "(())", "( )", "[]", "(5)", "(,)", "()()"}},
		{rec(num, text), []string{"()", "(5)", "(5,)", "(,5)", `(5"a")`, `(5 "a")`, `(5,"a"`, `5,"a")`, `5,"a"`, `("a",5)`, `(5,"a",)`, `(5,"a",5)`, `(5,"a",5,"a")`, `(5,"a"))`, `((5,"a"))`, `(5,,"a")`, `(,5,"a")`, `(a:5,b:"a")`, `(5;"a")`, `[5,"a"]`, `(05,"a")`, `(5,"a`, `(5,a)`}},
		{six, []string{"(5,5,5,5,5)", "(5,5,5,5,5,5,5)", "(5,5,5,5,5,5,)", "(5,5,5,5,5,5"}},
	} {
		for _, wrong := range append(c.wrong, "", " ", "(", ")", "\x00", written(c.shape)+"\x00") {
			sameValOut(t, shown(wrong), impl.ValRead(c.shape, wrong), impl.ValOut{Code: impl.ErrSyntax})
			sameValOut(t, shown(wrong)+" in a maybe", impl.ValRead(maybe(c.shape), "some("+wrong+")"), impl.ValOut{Code: impl.ErrSyntax})
			sameValOut(t, shown(wrong)+" in a record", impl.ValRead(rec(num, c.shape), "(5,"+wrong+")"), impl.ValOut{Code: impl.ErrSyntax})
			// Of none, and of some with a comma between, a list can be.
			valReadsAsSaid(t, list(c.shape), "["+wrong+"]")
		}
	}
}

// saysVal takes a text apart from its outside, where the program goes from its beginning to its end.
func saysVal(s impl.Shape, text string) bool {
	switch s.Kind {
	case impl.ShFlag:
		return text == "no" || text == "yes"
	case impl.ShNum:
		n, err := strconv.Atoi(text)
		return err == nil && n >= 0 && n <= impl.MaxTime && strconv.Itoa(n) == text
	case impl.ShText:
		return len(text) >= 2 && len(text) <= 22 && text[0] == '"' && text[len(text)-1] == '"' && strings.Trim(text[1:len(text)-1], textBytes()) == ""
	case impl.ShPick:
		return slices.Contains(s.Syms, text)
	case impl.ShMaybe:
		inner, ok := between(text, "some(", ")")
		return text == "none" || ok && saysVal(s.Shapes[0], inner)
	case impl.ShList:
		inner, ok := between(text, "[", "]")
		return text == "[]" || ok && saysVals(list7(s.Shapes[0]), splitVals(inner), 6)
	}
	inner, ok := between(text, "(", ")")
	if len(s.Shapes) == 0 {
		return ok && inner == ""
	}
	parts := splitVals(inner)
	return ok && len(parts) == len(s.Shapes) && saysVals(s.Shapes, parts, 6)
}

// list7 is one more than there can be.
func list7(one impl.Shape) []impl.Shape {
	return []impl.Shape{one, one, one, one, one, one, one}
}

func saysVals(shapes []impl.Shape, texts []string, most int) bool {
	if len(texts) > most {
		return false
	}
	for i, text := range texts {
		if !saysVal(shapes[i], text) {
			return false
		}
	}
	return true
}

func between(text string, open string, closed string) (string, bool) {
	if len(text) < len(open)+len(closed) || !strings.HasPrefix(text, open) || !strings.HasSuffix(text, closed) {
		return "", false
	}
	return text[len(open) : len(text)-len(closed)], true
}

// splitVals splits at the commas that stand neither in brackets nor in quotes.
func splitVals(text string) []string {
	out := []string{""}
	open, quoted := 0, false
	for _, b := range []byte(text) {
		switch {
		case b == '"':
			quoted = !quoted
		case !quoted && (b == '(' || b == '['):
			open++
		case !quoted && (b == ')' || b == ']'):
			open--
		}
		if b == ',' && open == 0 && !quoted {
			out = append(out, "")
			continue
		}
		out[len(out)-1] += string([]byte{b})
	}
	return out
}

// valReadsAsSaid tells whether that is the text of something that fits.
func valReadsAsSaid(t *testing.T, s impl.Shape, text string) bool {
	t.Helper()
	got := impl.ValRead(s, text)
	if !saysVal(s, text) {
		sameValOut(t, shown(text)+" by "+written(s), got, impl.ValOut{Code: impl.ErrSyntax})
		return false
	}
	same(t, shown(text), got.Code, impl.OK)
	same(t, shown(text), fitting(s, got.Val), true)
	same(t, shown(text), valWritten(s, got.Val), text)
	return true
}

// TestShortValTexts reads whatever can be put together of a few pieces.
func TestShortValTexts(t *testing.T) {
	for _, c := range []struct {
		shape  impl.Shape
		pieces []string
		most   int
		right  int
	}{
		{num, []string{"0", "1", "9", "-", " "}, 6, 729},
		{text, []string{`"`, "a", `\`, ",", "\x7f"}, 6, 121},
		{pick("a", "ab", "ba"), []string{"a", "b", ",", `"`}, 5, 3},
		{maybe(maybe(flag)), []string{"none", "some", "(", ")", "no"}, 7, 3},
		{list(list(num)), []string{"[", "]", ",", "0", "("}, 7, 5},
		{list(rec()), []string{"[", "]", ",", "()"}, 7, 4},
		{rec(flag, list(num)), []string{"(", ")", "[", "]", ",", "1", "no"}, 6, 1},
		{list(maybe(text)), []string{"[", "]", ",", "none", `some("`, `")`, "a,b"}, 6, 36},
	} {
		right := 0
		for _, text := range putTogether(c.pieces, c.most) {
			if valReadsAsSaid(t, c.shape, text) {
				right++
			}
		}
		same(t, "right ones of "+written(c.shape), right, c.right)
	}
}

// TestTurnedValTexts reads right texts of which a byte is another one, goes, or comes.
func TestTurnedValTexts(t *testing.T) {
	r := rand.New(rand.NewSource(10))
	for found := 0; found < 80; {
		s := someShape(r, 1+r.Intn(impl.MaxDeep))
		text := valWritten(s, someVal(r, s))
		if len(text) > 150 {
			continue
		}
		found++
		same(t, "unturned", valReadsAsSaid(t, s, text), true)
		for _, wrong := range turned(text, "anosy019A\"()[],: \n\x00\x1f~\x7f\xff") {
			valReadsAsSaid(t, s, wrong)
		}
	}
}

// A text is read by the shape that is asked for, and by no other one.
func TestValReadByOthers(t *testing.T) {
	for _, a := range kinds() {
		text := impl.ValText(a.shape, a.val)
		for _, b := range kinds() {
			valReadsAsSaid(t, b.shape, text)
		}
	}
	sameValOut(t, "a record as a list", impl.ValRead(list(num), "(5)"), impl.ValOut{Code: impl.ErrSyntax})
	sameValOut(t, "a list as a record", impl.ValRead(rec(num), "[5]"), impl.ValOut{Code: impl.ErrSyntax})
}

func TestValReadIsNewMemory(t *testing.T) {
	r := rand.New(rand.NewSource(11))
	for range 200 {
		s := someShape(r, 4)
		v := someVal(r, s)
		text := valWritten(s, v)
		got := impl.ValRead(s, text).Val
		apartAll(t, valStretches(got, "ValRead"))
		again := impl.ValText(s, got)
		for _, one := range valsOf(&got) {
			apart(t, "ValRead", one.T, text)
			apart(t, "ValText", again, one.T)
			for _, word := range wordsOf(s) {
				apart(t, "ValRead", one.T, word)
			}
		}
	}
	sym := pick("red", "green")
	apart(t, "ValText", impl.ValText(sym, pickVal(sym.Syms[0])), sym.Syms[0])
}

// TestReadValsStandAlone: whoever changes one answer changes no other one, and a fault is not kept.
func TestReadValsStandAlone(t *testing.T) {
	s := rec(list(num), pick("a", "b"))
	first := impl.ValRead(s, "([1,2],b)").Val
	kept := valCopied(first)
	second := impl.ValRead(s, "([1,2],b)").Val
	second.Items[0].Items[0].N = 9
	second.Items[0].Items = append(second.Items[0].Items, numVal(9))
	second.Items[1] = numVal(9)
	sameValOut(t, "a fault", impl.ValRead(s, "([1,2],c)"), impl.ValOut{Code: impl.ErrSyntax})
	sameVal(t, "the first answer", first, kept)
	sameValOut(t, "a third one", impl.ValRead(s, "([1,2],b)"), impl.ValOut{Val: kept})
	blank := impl.Blank(s)
	blank.Items[0] = numVal(9)
	blank.Items = append(blank.Items, numVal(9))
	sameVal(t, "a second Blank", impl.Blank(s), recVal(listVal(), pickVal("a")))
}
