package tests

import (
	"fmt"
	"math/rand"
	"slices"
	"testing"

	"loop.example/g00848/impl"
)

func TestEditBack(t *testing.T) {
	for _, c := range []struct {
		e    impl.Edit
		want impl.Edit
	}{
		{addOf("a*", 2, "abc", list(num)), dropOf("a*", 2, "abc", list(num))},
		{dropOf("", 0, "b", pick("red", "green")), addOf("", 0, "b", pick("red", "green"))},
		{nameOf("b", "abc", "d"), nameOf("b", "d", "abc")},
		{nameOf("", "a", "a"), nameOf("", "a", "a")},
		{symOf("*", 1, "blue"), unsymOf("*", 1, "blue")},
		{symOf("", 0, "blue"), unsymOf("", 0, "blue")},
		{unsymOf("z", 5, "abcdefgh"), symOf("z", 5, "abcdefgh")},
		{bareOf(impl.EdMaybe, "ab"), bareOf(impl.EdSure, "ab")},
		{bareOf(impl.EdSure, ""), bareOf(impl.EdMaybe, "")},
		{bareOf(impl.EdList, "*****"), bareOf(impl.EdOne, "*****")},
		{bareOf(impl.EdOne, "a"), bareOf(impl.EdList, "a")},
		{setOf("c", maybe(flag), rec(num, text)), setOf("c", rec(num, text), maybe(flag))},
		{setOf("", num, num), setOf("", num, num)},
		{setOf("", wide(5), lists(4)), setOf("", lists(4), wide(5))},
	} {
		what := editWritten(c.e)
		sameEdit(t, what, impl.EditBack(c.e), c.want)
		sameEdit(t, what+", back", impl.EditBack(c.want), c.e)
		sameEdit(t, what+", beside", backBy(c.e), c.want)
	}
}

func TestEditsBack(t *testing.T) {
	sameEdits(t, "none", impl.EditsBack(nil), nil)
	sameEdits(t, "an empty list", impl.EditsBack([]impl.Edit{}), nil)
	all := oneOfEachKind()
	for size := range len(all) + 1 {
		l := all[:size]
		want := []impl.Edit{}
		for i := size - 1; i >= 0; i-- {
			want = append(want, backBy(l[i]))
		}
		got := impl.EditsBack(l)
		sameEdits(t, editsWritten(l), got, want)
		sameEdits(t, editsWritten(l)+", back", impl.EditsBack(got), l)
	}
	for place := range all {
		l := editsCopied(all)
		l[place].Path = path("A")
		sameEdits(t, fmt.Sprint("a wrong one at ", place), impl.EditsBack(l), nil)
		l[place] = impl.Edit{}
		sameEdits(t, fmt.Sprint("zero at ", place), impl.EditsBack(l), nil)
	}
}

// wrapped is that many edits, which make a maybe of the shape and undo it, turn by turn.
func wrapped(count int) []impl.Edit {
	l := []impl.Edit{}
	for i := range count {
		l = append(l, bareOf([]int64{impl.EdMaybe, impl.EdSure}[i%2], ""))
	}
	return l
}

func TestManyEdits(t *testing.T) {
	for _, size := range []int{impl.MaxList - 1, impl.MaxList} {
		l := wrapped(size)
		want := num
		if size%2 == 1 {
			want = maybe(num)
		}
		sameShapeOut(t, fmt.Sprint(size, " edits"), impl.EditsApply(num, l), impl.ShapeOut{Shape: want})
		back := impl.EditsBack(l)
		same(t, fmt.Sprint(size, " back"), len(back), size)
		sameShapeOut(t, fmt.Sprint(size, " back"), impl.EditsApply(want, back), impl.ShapeOut{Shape: num})
		l[size-1] = bareOf(impl.EdOne, "")
		tells(t, "the last one", impl.EditsApply(num, l), impl.ErrState)
		l[0] = impl.Edit{}
		tells(t, "the first one", impl.EditsApply(num, l), impl.ErrForm)
		sameEdits(t, "the first one", impl.EditsBack(l), nil)
	}
	for _, size := range []int{impl.MaxList + 1, impl.MaxList + 2, 2 * impl.MaxList} {
		tells(t, fmt.Sprint(size, " edits"), impl.EditsApply(num, wrapped(size)), impl.ErrSize)
		sameEdits(t, fmt.Sprint(size, " back"), impl.EditsBack(wrapped(size)), nil)
	}
}

func TestEditsApply(t *testing.T) {
	for _, c := range []struct {
		s    string
		l    []impl.Edit
		want string
	}{
		{"num", nil, "num"},
		{"rec(a:list(pick(x,y)))", []impl.Edit{}, "rec(a:list(pick(x,y)))"},
		{"rec(a:num)", []impl.Edit{addOf("", 1, "b", pick("x")), symOf("b", 1, "y"), bareOf(impl.EdList, "b"), nameOf("", "b", "c"), unsymOf("c*", 1, "y")}, "rec(a:num,c:list(pick(x)))"},
		{"rec(a:num)", []impl.Edit{nameOf("", "a", "b"), addOf("", 0, "a", text), dropOf("", 1, "b", num)}, "rec(a:text)"},
		{"rec(a:num)", []impl.Edit{dropOf("", 0, "a", num), addOf("", 0, "a", num), addOf("", 1, "b", num)}, "rec(a:num,b:num)"},
		{"rec(a:num,b:text)", []impl.Edit{nameOf("", "a", "c"), nameOf("", "b", "a"), nameOf("", "c", "b")}, "rec(b:num,a:text)"},
		{"maybe(num)", []impl.Edit{bareOf(impl.EdList, ""), bareOf(impl.EdSure, "*"), setOf("*", text, num), bareOf(impl.EdOne, "")}, "text"},
		{"list(list(list(list(num))))", []impl.Edit{bareOf(impl.EdOne, "**"), bareOf(impl.EdMaybe, "***")}, "list(list(list(maybe(num))))"},
		{"pick(a,b,c,d,e,f)", []impl.Edit{unsymOf("", 3, "d"), symOf("", 5, "g"), unsymOf("", 1, "b"), symOf("", 1, "d")}, "pick(a,d,c,e,f,g)"},
		{"num", []impl.Edit{setOf("", rec(), num), addOf("", 0, "a", rec(rec(num), text)), dropOf("aa", 0, "a", num)}, "rec(a:rec(a:rec(),b:text))"},
	} {
		s := impl.ShapeRead(c.s).Shape
		what := editsWritten(c.l) + " of " + c.s
		got := impl.EditsApply(s, c.l)
		same(t, what, got.Code, impl.OK)
		same(t, what, written(got.Shape), c.want)
		sameShapeOut(t, what+", undone", impl.EditsApply(got.Shape, impl.EditsBack(c.l)), impl.ShapeOut{Shape: s})
	}
}

// TestSomeEditsAreUndone: promise 8, of edits, one after the other.
func TestSomeEditsAreUndone(t *testing.T) {
	random := rand.New(rand.NewSource(41))
	const rounds = 600
	all := 0
	for range rounds {
		s := impl.ShapeRead("rec(a:num,b:list(pick(x,y,z)),c:maybe(text))").Shape
		if random.Intn(2) == 0 {
			s = someShape(random, 1+random.Intn(3))
		}
		l, want := someEdits(random, s, random.Intn(12))
		all += len(l)
		what := editsWritten(l) + " of " + written(s)
		got := impl.EditsApply(s, l)
		sameShapeOut(t, what, got, impl.ShapeOut{Shape: want})
		back := impl.EditsBack(l)
		sameShapeOut(t, what+", undone", impl.EditsApply(got.Shape, back), impl.ShapeOut{Shape: s})
		sameShapeOut(t, what+", done and undone", impl.EditsApply(s, slices.Concat(l, back)), impl.ShapeOut{Shape: s})
		sameShapeOut(t, what+", undone and done", impl.EditsApply(want, slices.Concat(back, l)), impl.ShapeOut{Shape: want})
		sameEdits(t, what+", back twice", impl.EditsBack(back), l)
		now := s
		for _, e := range l {
			now = impl.EditApply(now, e).Shape
		}
		sameShapeOut(t, what+", one by one", got, impl.ShapeOut{Shape: now})
	}
	same(t, "enough are done", all > rounds*4, true)
}
