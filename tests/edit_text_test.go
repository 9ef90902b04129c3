package tests

import (
	"fmt"
	"math/rand"
	"strings"
	"testing"

	"loop.example/g00848/impl"
)

func TestEditsAndTheirTexts(t *testing.T) {
	for _, c := range []struct {
		e    impl.Edit
		text string
	}{
		{addOf("", 0, "a", num), "add / 0 a num"},
		{addOf("a*", 5, "abcdefgh", list(rec())), "add /a/* 5 abcdefgh list(rec())"},
		{dropOf("", 1, "b", pick("red", "green")), "drop / 1 b pick(red,green)"},
		{dropOf("*****", 3, "num", num), "drop /*/*/*/*/* 3 num num"},
		{nameOf("", "a", "z"), "name / a z"},
		{nameOf("b", "a", "a"), "name /b a a"},
		{symOf("b", 1, "blue"), "sym /b 1 blue"},
		{symOf("", 0, "sym"), "sym / 0 sym"},
		{unsymOf("b", 4, "green"), "unsym /b 4 green"},
		{bareOf(impl.EdMaybe, ""), "maybe /"},
		{bareOf(impl.EdSure, "a"), "sure /a"},
		{bareOf(impl.EdList, "*b*"), "list /*/b/*"},
		{bareOf(impl.EdOne, "abcde"), "one /a/b/c/d/e"},
		{setOf("", text, num), "set / text num"},
		{setOf("a", num, text), "set /a num text"},
		{setOf("a", rec(num, pick("x")), maybe(flag)), "set /a rec(a:num,b:pick(x)) maybe(flag)"},
	} {
		same(t, "EditText", impl.EditText(c.e), c.text)
		same(t, "beside", editWritten(c.e), c.text)
		sameEditOut(t, c.text, impl.EditRead(c.text), impl.EditOut{Edit: c.e})
	}
}

// readsNoEdit: it is the text of none.
func readsNoEdit(t *testing.T, text string) {
	t.Helper()
	sameEditOut(t, "EditRead of "+shown(text), impl.EditRead(text), impl.EditOut{Code: impl.ErrSyntax})
}

func TestEditReadOfNone(t *testing.T) {
	for _, text := range []string{
		"", " ", "  ", "/", "a", "0", "\x00", "\xff", "adds / 0 a num", "Add / 0 a num", "ad / 0 a num", "ADD / 0 a num", "edit /", "rec /", "flag /", "kind /", "wait /", "EdMaybe /",
		" add / 0 a num", "add / 0 a num ", "add  / 0 a num", "add /  0 a num", "add / 0  a num", "add / 0 a  num", "add\t/ 0 a num", "add / 0 a num\n", "\nadd / 0 a num", "add / 0 a\nnum", "add/ 0 a num", "add /0 a num", "add / 0a num", "add / 0 anum",
		"add", "add ", "add /", "add / ", "add / 0", "add / 0 ", "add / 0 a", "add / 0 a ", "add / 0 a num num", "add / 0 a num 0", "add / 0 a z num", "add / a num", "add 0 a num", "add / 0 num", "add / a 0 num", "add 0 / a num", "add / 0 num a", "/ add 0 a num", "0 / add a num",
		"add / 00 a num", "add / 01 a num", "add / +1 a num", "add / -0 a num", "add / -1 a num", "add / 6 a num", "add / 10 a num", "add / 5.0 a num", "add / 0x1 a num", "add / 1_0 a num", "add / 1e0 a num", "add / x a num", "add / \u0661 a num", "add / 9223372036854775808 a num", "add / 18446744073709551616 a num", "add / 18446744073709551617 a num", "add / -9223372036854775809 a num", "add / " + times("0", 1000) + " a num", "add / " + times("1", 1000) + " a num",
		"add a 0 a num", "add // 0 a num", "add /a/ 0 a num", "add a/b 0 a num", "add /A 0 a num", "add /** 0 a num", "add /abcdefghi 0 a num", "add /a/b/c/d/e/f 0 a num", "add * 0 a num", "add /a,b 0 a num", "add  0 a num",
		"add / 0 A num", "add / 0 a1 num", "add / 0 * num", "add / 0 abcdefghi num", "add / 0 / num", "add / 0 0 num", "add / 0 a,b num", "add / 0 a: num",
		"add / 0 a nums", "add / 0 a Num", "add / 0 a pick()", "add / 0 a rec(a: num)", "add / 0 a rec(a:num, b:num)", "add / 0 a list(num", "add / 0 a list(list(list(list(list(num)))))", "add / 0 a rec(a:num,a:num)", "add / 0 a pick(a,b) ", "add / 0 a any",
		"drop / 0 a", "drop / a", "drop / 0", "drop / 0 a z", "drop / 6 a num", "drop / 0 a num num",
		"name", "name /", "name / a", "name / a ", "name / a b c", "name / 0 a b", "name / a 0", "name / a b num", "name / A b", "name / a B", "name  a b", "name / a  b", "name / a num num",
		"sym /", "sym / 1", "sym / a", "sym / 1 a b", "sym / 1 a num", "sym / 01 a", "sym / 6 a", "sym / -1 a", "sym / a 1", "sym / 1 ", "sym / 1 A", "sym 1 a",
		"unsym /", "unsym / 1", "unsym / a", "unsym / 1 a b", "unsym / 1 a pick(a,b)", "unsym / 01 a", "unsym / 7 a", "un sym / 1 a",
		"maybe", "maybe ", "maybe / ", "maybe / num", "maybe / 0", "maybe / a", "maybe //", "maybe /a/", "maybe a", "maybe(num)", "maybe / /", " maybe /", "maybe  /", "maybe / maybe /",
		"sure", "sure / num", "sure / ", "sures /", "list", "list / num", "list(num)", "list / ", "lis /", "one", "one / num", "one / 1", "one / ", "ones /", "1 /",
		"set", "set /", "set / num", "set / num ", "set / num text flag", "set / num  text", "set /  num text", "set / num nums", "set / a num text", "set / 0 num text", "set num text", "set / num,text", "set / pick() num", "set / num pick()", "set / a b", "set /A num text", "sets / num text",
		times("add ", 2000), times(" ", impl.MaxBytes), times("maybe /", 1000), "maybe " + times("/a", 3000), times("/", impl.MaxBytes), filled(impl.MaxBytes),
	} {
		readsNoEdit(t, text)
	}
	for _, long := range []string{tooLong, times(" ", impl.MaxBytes+1), "maybe /" + times(" ", impl.MaxBytes), times("maybe /", 2000), "add / 0 a num" + times("x", impl.MaxBytes)} {
		sameEditOut(t, shown(long), impl.EditRead(long), impl.EditOut{Code: impl.ErrSize})
	}
}

// TestEditTextOfMaxBytes: as long as may be, and longer ones, which come out, but are not read again.
func TestEditTextOfMaxBytes(t *testing.T) {
	for _, c := range []struct {
		size int
		code int64
	}{
		{impl.MaxBytes - 1, impl.OK}, {impl.MaxBytes, impl.OK}, {impl.MaxBytes + 1, impl.ErrSize}, {impl.MaxBytes + 1000, impl.ErrSize},
	} {
		for _, e := range []impl.Edit{addOf("", 0, "a", sized(c.size-len("add / 0 a "))), dropOf("ab", 4, "abc", sized(c.size-len("drop /a/b 4 abc "))), setOf("*", sized(c.size-len("set /*  num")), num), setOf("", num, sized(c.size-len("set / num ")))} {
			text := impl.EditText(e)
			same(t, "EditText", text, editWritten(e))
			same(t, "its size", len(text), c.size)
			want := impl.EditOut{Code: c.code}
			if c.code == impl.OK {
				want.Edit = e
			}
			sameEditOut(t, fmt.Sprint("EditRead of ", c.size), impl.EditRead(text), want)
		}
	}
}

// saysEdit takes a text apart beside the program.
func saysEdit(text string) bool {
	parts := strings.Split(text, " ")
	forms := map[string]string{"add": "pans", "drop": "pans", "name": "pnn", "sym": "pan", "unsym": "pan", "maybe": "p", "sure": "p", "list": "p", "one": "p", "set": "pss"}
	form, found := forms[parts[0]]
	if !found || len(parts) != len(form)+1 {
		return false
	}
	for i, part := range parts[1:] {
		ok := false
		switch form[i] {
		case 'p':
			ok = part == "/" || saidPath(part) != nil
		case 'a':
			ok = len(part) == 1 && strings.Contains("012345", part)
		case 'n':
			ok = saysWords([]string{part})
		case 's':
			ok = saysShape(part, impl.MaxDeep)
		}
		if !ok {
			return false
		}
	}
	return true
}

// readsEditAsSaid tells whether that is the text of a right edit.
func readsEditAsSaid(t *testing.T, text string) bool {
	t.Helper()
	if !saysEdit(text) {
		readsNoEdit(t, text)
		return false
	}
	got := impl.EditRead(text)
	same(t, shown(text), got.Code, impl.OK)
	same(t, shown(text)+" is right", impl.EditRight(got.Edit), true)
	same(t, shown(text), impl.EditText(got.Edit), text)
	same(t, shown(text)+", beside", editWritten(got.Edit), text)
	return true
}

// TestShortEditTexts reads whatever can be put together of a few pieces.
func TestShortEditTexts(t *testing.T) {
	right := 0
	for _, text := range putTogether([]string{"add ", "name ", "sym ", "maybe ", "set ", "/ ", "/", "a", "a ", "0 ", "num"}, 5) {
		if readsEditAsSaid(t, text) {
			right++
		}
	}
	same(t, "enough right ones", right > 20, true)
}

// TestTurnedEditTexts reads right texts of which a byte is another one, goes, or comes.
func TestTurnedEditTexts(t *testing.T) {
	random := rand.New(rand.NewSource(43))
	texts := []string{"add /a/* 5 abcdefgh list(rec(a:num))", "set / pick(a,b) maybe(flag)", "name /* abc d", "unsym /b 4 green", "one /a/b/c/d/e"}
	for _, e := range oneOfEachKind() {
		texts = append(texts, editWritten(e))
	}
	for len(texts) < 60 {
		if text := editWritten(someEdit(random, someShape(random, 3))); len(text) < 150 {
			texts = append(texts, text)
		}
	}
	right := 0
	for _, text := range texts {
		same(t, "unturned", readsEditAsSaid(t, text), true)
		for _, other := range turned(text, " abz`{A0569-+_*/(),:\n\x00\xff") {
			if readsEditAsSaid(t, other) {
				right++
			}
		}
	}
	same(t, "enough are right, turned", right > 500, true)
}

func TestEditsComeBack(t *testing.T) {
	random := rand.New(rand.NewSource(44))
	for range 5000 {
		e := someEdit(random, someShape(random, 1+random.Intn(4)))
		text := impl.EditText(e)
		same(t, "EditText", text, editWritten(e))
		if len(text) <= impl.MaxBytes {
			sameEditOut(t, text, impl.EditRead(text), impl.EditOut{Edit: e})
			sameEditOut(t, text+", back", impl.EditRead(impl.EditText(impl.EditBack(e))), impl.EditOut{Edit: backBy(e)})
		}
	}
}
