package tests

import (
	"math/rand"
	"slices"
	"strings"
	"testing"

	"loop.example/g00848/impl"
)

func TestShapeText(t *testing.T) {
	for _, c := range []struct {
		shape impl.Shape
		want  string
	}{
		{flag, "flag"},
		{num, "num"},
		{text, "text"},
		{pick("a"), "pick(a)"},
		{pick("red", "green"), "pick(red,green)"},
		{pick("green", "red"), "pick(green,red)"},
		{pick("abcdefgh", "b", "c", "d", "e", "f"), "pick(abcdefgh,b,c,d,e,f)"},
		{pick("pick", "rec"), "pick(pick,rec)"},
		{maybe(flag), "maybe(flag)"},
		{list(text), "list(text)"},
		{maybe(list(maybe(list(num)))), "maybe(list(maybe(list(num))))"},
		{rec(), "rec()"},
		{rec(num), "rec(a:num)"},
		{rec(rec(), rec()), "rec(a:rec(),b:rec())"},
		{list(rec(maybe(rec(flag)), pick("a", "b"), text)), "list(rec(a:maybe(rec(a:flag)),b:pick(a,b),c:text))"},
		{rec(num, num, num, num, num, num), "rec(a:num,b:num,c:num,d:num,e:num,f:num)"},
		{impl.Shape{Kind: impl.ShRec, Names: []string{"num", "rec"}, Shapes: []impl.Shape{num, rec()}}, "rec(num:num,rec:rec())"},
		{impl.Shape{Kind: impl.ShRec, Names: []string{"z", "abcdefgh"}, Shapes: []impl.Shape{num, flag}}, "rec(z:num,abcdefgh:flag)"},
	} {
		same(t, "ShapeText", impl.ShapeText(c.shape), c.want)
		sameShapeOut(t, c.want, impl.ShapeRead(c.want), impl.ShapeOut{Shape: c.shape})
	}
}

func TestShapesComeBack(t *testing.T) {
	r := rand.New(rand.NewSource(2))
	for range 3000 {
		s := someShape(r, impl.MaxDeep)
		text := impl.ShapeText(s)
		same(t, "ShapeText", text, written(s))
		want := impl.ShapeOut{Shape: s}
		if len(text) > impl.MaxBytes {
			want = impl.ShapeOut{Code: impl.ErrSize}
		}
		got := impl.ShapeRead(text)
		sameShapeOut(t, text, got, want)
		same(t, "ShapeSame", impl.ShapeSame(got.Shape, want.Shape), true)
	}
}

func TestShapeTextOfMaxBytes(t *testing.T) {
	for _, c := range []struct {
		size int
		code int64
	}{
		{impl.MaxBytes - 1, impl.OK},
		{impl.MaxBytes, impl.OK},
		{impl.MaxBytes + 1, impl.ErrSize},
		{impl.MaxBytes + 2000, impl.ErrSize},
	} {
		s := sized(c.size)
		text := impl.ShapeText(s)
		same(t, "ShapeText", text, written(s))
		same(t, "its size", len(text), c.size)
		want := impl.ShapeOut{Code: c.code}
		if c.code == impl.OK {
			want.Shape = s
		}
		sameShapeOut(t, "ShapeRead", impl.ShapeRead(text), want)
	}
	sameShapeOut(t, "MaxBytes that are none", impl.ShapeRead(filled(impl.MaxBytes)), impl.ShapeOut{Code: impl.ErrSyntax})
	sameShapeOut(t, "more that are none", impl.ShapeRead(tooLong), impl.ShapeOut{Code: impl.ErrSize})
}

func TestShapeReadFaults(t *testing.T) {
	for _, wrong := range []string{
		"", " ", "(", ")", ",", ":", "()", "a", "fla", "flags", "Flag", "NUM", "shape", "0", "\x00", "\xff",
		" num", "num ", "num\n", "num,", "num)", "num()", "num(num)", "numnum", "num,num", "flag(", "text()",
		"pick", "pick(", "pick()", "pick(,)", "pick(a,)", "pick(,a)", "pick(a", "pick(a,", "pick(a))", "pick(a)b", "pick a", "pick(a b)", "pick( a)", "pick(a, b)",
		"pick(a,a)", "pick(a,b,a)", "pick(A)", "pick(a1)", "pick(a_)", "pick(abcdefghi)", "pick(a,b,c,d,e,f,g)", "pick(a:num)", "pick(num())", "pick(pick(a))", "pick(*)",
		"maybe", "maybe(", "maybe()", "maybe(num", "maybe(num))", "maybe(num,num)", "maybe(num,)", "maybe(a)", "maybe(a:num)", "maybe(num,a:num)", "maybe(,num)", "maybe num",
		"list", "list(", "list()", "list(num", "list(num))", "list(num,num)", "list(num,)", "list(a)", "list(a:num)", "list(num,a:num)", "list(list)", "list(num]",
		"rec", "rec(", "rec(()", "rec())", "rec(,)", "rec(a)", "rec(a:)", "rec(:num)", "rec(a:num", "rec(a:num,", "rec(a:num,)", "rec(a:num,,b:num)", "rec(,a:num)", "rec(num)",
		"rec(a:num,a:num)", "rec(a:num,b:num,a:flag)", "rec(a num)", "rec(a: num)", "rec(a :num)", "rec(a::num)", "rec(a:b:num)", "rec(a:num b:num)", "rec(a:num;b:num)",
		"rec(abcdefghi:num)", "rec(a1:num)", "rec(A:num)", "rec(*:num)", "rec(a:num,b:num,c:num,d:num,e:num,f:num,g:num)", "rec(a:any)", "rec(a:num)num",
		"maybe(list(maybe(list(list(num)))))", "rec(a:rec(a:rec(a:rec(a:rec(a:rec())))))", "rec(a:num,b:list(list(list(list(num)))))", "list(list(list(list(pick()))))",
		times("list(", 1000), times("rec(a:", 1000), times(")", 1000), times("list(", 1000) + "num" + times(")", 1000), times("rec(a:", 1000) + "num" + times(")", 1000), "pick(" + times("a,", 3000) + "a)",
	} {
		sameShapeOut(t, shown(wrong), impl.ShapeRead(wrong), impl.ShapeOut{Code: impl.ErrSyntax})
	}
}

// saysShape takes a text apart from its outside, where the program goes from its beginning to its end.
func saysShape(text string, levels int) bool {
	if levels == 0 {
		return false
	}
	if text == "flag" || text == "num" || text == "text" || text == "rec()" {
		return true
	}
	head, body, ok := strings.Cut(strings.TrimSuffix(text, ")"), "(")
	if !ok || !strings.HasSuffix(text, ")") {
		return false
	}
	switch head {
	case "maybe", "list":
		return saysShape(body, levels-1)
	case "pick":
		return saysWords(strings.Split(body, ","))
	case "rec":
		names := []string{}
		for _, field := range splitOutside(body) {
			name, part, ok := strings.Cut(field, ":")
			if !ok || !saysShape(part, levels-1) {
				return false
			}
			names = append(names, name)
		}
		return saysWords(names)
	}
	return false
}

func saysWords(words []string) bool {
	for i, word := range words {
		if len(word) < 1 || len(word) > 8 || strings.Trim(word, "abcdefghijklmnopqrstuvwxyz") != "" || slices.Contains(words[:i], word) {
			return false
		}
	}
	return len(words) <= 6
}

// splitOutside splits at the commas that stand in no brackets.
func splitOutside(text string) []string {
	out := []string{""}
	open := 0
	for _, b := range []byte(text) {
		switch b {
		case '(':
			open++
		case ')':
			open--
		}
		if b == ',' && open == 0 {
			out = append(out, "")
			continue
		}
		out[len(out)-1] += string([]byte{b})
	}
	return out
}

// readsAsSaid tells whether that is the text of a right shape.
func readsAsSaid(t *testing.T, text string) bool {
	t.Helper()
	got := impl.ShapeRead(text)
	if !saysShape(text, impl.MaxDeep) {
		sameShapeOut(t, shown(text), got, impl.ShapeOut{Code: impl.ErrSyntax})
		return false
	}
	same(t, shown(text), got.Code, impl.OK)
	same(t, shown(text), impl.ShapeText(got.Shape), text)
	return true
}

// TestShortTexts reads whatever can be put together of a few pieces.
func TestShortTexts(t *testing.T) {
	pieces := []string{"num", "pick(", "list(", "rec(", "rec", "(", ")", ",", ":", "a", "b"}
	right := 0
	for _, text := range putTogether(pieces, 5) {
		if readsAsSaid(t, text) {
			right++
		}
	}
	same(t, "enough right ones", right > 50, true)
}

// TestTurnedTexts reads right texts of which a byte is another one, goes, or comes.
func TestTurnedTexts(t *testing.T) {
	r := rand.New(rand.NewSource(4))
	texts := []string{"rec(a:pick(a,b,c,d,e),b:rec(),c:maybe(list(maybe(num))),d:flag,e:text)", "pick(abcdefgh,abcdefg)", "list(list(list(list(rec()))))"}
	for len(texts) < 60 {
		if text := written(someShape(r, impl.MaxDeep)); len(text) < 200 {
			texts = append(texts, text)
		}
	}
	for _, text := range texts {
		same(t, "unturned", readsAsSaid(t, text), true)
		for _, wrong := range turned(text, "abz`{A0_*(),: \n\x00\xff") {
			readsAsSaid(t, wrong)
		}
	}
}

func TestShapeReadIsNewMemory(t *testing.T) {
	r := rand.New(rand.NewSource(5))
	texts := []string{"rec(a:pick(a,b),b:rec(a:num,b:pick(a,b)),c:list(pick(a,b)),d:list(pick(a,b)))", written(wide(4)), written(sized(impl.MaxBytes))}
	for range 100 {
		texts = append(texts, written(someShape(r, impl.MaxDeep)))
	}
	for _, text := range texts {
		s := impl.ShapeRead(text).Shape
		apartAll(t, listsOf(s, "ShapeRead"))
		again := impl.ShapeText(s)
		for _, word := range wordsOf(s) {
			apart(t, "ShapeRead", word, text)
			apart(t, "ShapeText", again, word)
		}
	}
}

// TestReadShapesStandAlone: whoever changes one answer changes no other one.
func TestReadShapesStandAlone(t *testing.T) {
	const text = "rec(a:pick(a,b),b:rec(a:num,b:pick(a,b)))"
	first := impl.ShapeRead(text).Shape
	kept := copied(first)
	second := impl.ShapeRead(text).Shape
	second.Names[0] = "z"
	second.Shapes[0].Syms[0] = "z"
	second.Shapes[0].Syms = append(second.Shapes[0].Syms, "y")
	second.Shapes[1].Shapes[0] = flag
	same(t, "the first answer", alike(first, kept), true)
	sameShapeOut(t, "a third one", impl.ShapeRead(text), impl.ShapeOut{Shape: kept})
}
