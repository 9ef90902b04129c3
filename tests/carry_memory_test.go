package tests

import (
	"fmt"
	"math/rand"
	"slices"
	"testing"

	"loop.example/g00848/impl"
)

// carriedApart fails if an answer has memory of what was handed in, or the same memory in two places.
func carriedApart(t *testing.T, what string, answer impl.Val, s impl.Shape, e impl.Edit, vals ...impl.Val) {
	t.Helper()
	all := valStretches(answer, what)
	apartAll(t, all)
	handed := slices.Concat(editStretches(e, "the edit"), listsOf(s, "the shape"))
	texts := slices.Concat(editTexts(e), wordsOf(s))
	for _, v := range vals {
		handed = append(handed, valStretches(v, "handed in")...)
		texts = append(texts, textsOf(v)...)
	}
	// What is handed in may have one list in two places, but the answer may have none of it.
	for _, other := range handed {
		for _, one := range all {
			apartAll(t, []stretch{one, other})
		}
	}
	wordsApart(t, what, textsOf(answer), texts)
}

func TestCarriedIsNewMemory(t *testing.T) {
	random := rand.New(rand.NewSource(54))
	done := map[int64]int{}
	for range 20000 {
		s := someShape(random, 1+random.Intn(4))
		e := someEdit(random, s)
		if impl.NodesOf(s)+impl.NodesOf(e.Shape) > 30 || impl.EditApply(s, e).Code != impl.OK {
			continue
		}
		v := likelyVal(random, s)
		for _, olds := range someOlds(random, s, e, v) {
			old := append(olds, impl.Val{})[0]
			if impl.NodesOf(s)*int64(len(valsOf(&v))+len(valsOf(&old))) > 1000 {
				continue
			}
			done[e.Kind]++
			carriedApart(t, editWritten(e), impl.Carry(s, e, v, old, len(olds) > 0).Val, s, e, v, old)
		}
	}
	for kind := int64(impl.EdAdd); kind <= impl.EdSet; kind++ {
		same(t, fmt.Sprint("enough are done of ", kind, ": ", done[kind]), done[kind] > 20, true)
	}
}

// TestOneListInManyPlaces: one list in two places of what is handed in is two lists in what is answered.
func TestOneListInManyPlaces(t *testing.T) {
	part := recOf("ab", num, list(text))
	one := recVal(numVal(1), listVal(textVal("x"), textVal("y")))
	five, twice := []impl.Val{one, one, one, one, one}, []impl.Val{one, one}
	carry := func(s impl.Shape, e impl.Edit, v impl.Val, want impl.Val, olds ...impl.Val) {
		t.Helper()
		carriesAs(t, s, e, v, want, olds...)
		old := append(slices.Clone(olds), impl.Val{})[0]
		carriedApart(t, editWritten(e), impl.Carry(s, e, v, old, len(olds) > 0).Val, s, e, v, old)
	}
	both := rec(part, part)
	carry(both, nameOf("", "a", "c"), recVal(twice...), recVal(twice...))
	carry(both, nameOf("", "a", "c"), recVal(twice...), recVal(twice...), recVal(twice...))
	carry(both, addOf("", 1, "c", part), recVal(twice...), recVal(one, one, one), recVal(one, one, one))
	carry(both, dropOf("", 0, "a", part), recVal(twice...), recVal(one), recVal(one))
	carry(both, setOf("a", list(part), part), recVal(twice...), recVal(listVal(twice...), one), recVal(listVal(twice...), one))
	carry(list(part), nameOf("*", "a", "c"), listVal(five...), listVal(five...))
	carry(list(part), setOf("*", part, part), listVal(five...), listVal(five...), listVal(five...))
	carry(list(part), bareOf(impl.EdMaybe, "*"), listVal(twice...), listVal(maybeVal(one), maybeVal(one)))
	carry(list(part), bareOf(impl.EdList, "*"), listVal(twice...), listVal(listVal(five...), listVal(five...)), listVal(listVal(five...), listVal(five...)))
	carry(list(part), bareOf(impl.EdOne, ""), listVal(five...), one, one)
	carry(part, bareOf(impl.EdList, ""), one, listVal(five...), listVal(five...))
	carry(list(rec()), addOf("*", 0, "a", pick("x")), listVal(many(recVal(), 6)...), listVal(many(recVal(pickVal("x")), 6)...))
	carry(list(num), setOf("*", rec(pick("x"), rec(num)), num), listVal(many(numVal(1), 6)...), listVal(many(recVal(pickVal("x"), recVal(numVal(0))), 6)...))
	carry(list(list(part)), bareOf(impl.EdOne, "*"), listVal(listVal(), listVal(), listVal(one)), listVal(impl.Blank(part), impl.Blank(part), one))
}

func TestCarryChangesNothing(t *testing.T) {
	random := rand.New(rand.NewSource(55))
	done := 0
	for range 10000 {
		s := someShape(random, 1+random.Intn(4))
		e := someEdit(random, s)
		changed := impl.EditApply(s, e)
		v, old := likelyVal(random, s), numVal(-1)
		if changed.Code == impl.OK {
			done++
			old = besideVal(random, changed.Shape, carriedBy(s, e, v))
		}
		sBefore, eBefore, vBefore, oldBefore := copied(s), editCopied(e), valCopied(v), valCopied(old)
		impl.Carry(s, e, v, old, true)
		impl.Carry(s, e, v, old, false)
		impl.Loses(e)
		same(t, "the shape as it was", alike(s, sBefore), true)
		sameEdit(t, "the edit as it was", e, eBefore)
		sameVal(t, "v as it was", v, vBefore)
		sameVal(t, "old as it was", old, oldBefore)
	}
	same(t, "enough are done", done > 2000, true)
}

// TestNothingIsPutBehindCarried: a list that is handed in may have room behind its end, which is not the program's.
func TestNothingIsPutBehindCarried(t *testing.T) {
	behind := textVal("behind")
	s := rec(list(rec(num)), pick("x", "y"))
	inner := []impl.Val{recVal(numVal(1)), recVal(numVal(2)), behind}
	items := []impl.Val{listVal(inner[:2]...), pickVal("x"), behind}
	v := recVal(items[:2]...)
	for _, e := range []impl.Edit{
		addOf("", 0, "c", num), addOf("", 1, "c", num), addOf("", 2, "c", num), addOf("a*", 0, "b", num), addOf("a*", 1, "b", num),
		dropOf("", 0, "a", list(rec(num))), dropOf("", 1, "b", pick("x", "y")), dropOf("a*", 0, "a", num), nameOf("", "a", "c"), symOf("b", 1, "z"), unsymOf("b", 1, "y"),
		bareOf(impl.EdMaybe, "a*"), bareOf(impl.EdList, "a"), bareOf(impl.EdList, "a*a"), bareOf(impl.EdOne, "a"), setOf("a*", text, rec(num)), setOf("a*a", text, num),
	} {
		carriesAsBeside(t, s, e, v)
		changed := edited(t, s, e)
		w := carriedBy(s, e, v)
		w.Items = append(slices.Clone(w.Items), behind)[:len(w.Items)]
		carriesAsBeside(t, s, e, v, w)
		carriesAsBeside(t, changed, impl.EditBack(e), w, v)
		sameVal(t, "behind an old one", w.Items[:len(w.Items)+1][len(w.Items)], behind)
	}
	sameVal(t, "the Items", recVal(items...), recVal(listVal(recVal(numVal(1)), recVal(numVal(2))), pickVal("x"), behind))
	sameVal(t, "the inner Items", recVal(inner...), recVal(recVal(numVal(1)), recVal(numVal(2)), behind))
}

// TestEmptyItemsAreNotHandedOn: a list of none may have room, which is not the answer's.
func TestEmptyItemsAreNotHandedOn(t *testing.T) {
	room := func(v impl.Val) impl.Val {
		v.Items = slices.Grow(v.Items, 5)
		return v
	}
	for _, c := range kinds() {
		v := room(c.val)
		for _, e := range changing(c.shape) {
			changed := edited(t, c.shape, e)
			old := room(impl.Blank(changed))
			carriedApart(t, c.what+", "+editWritten(e), impl.Carry(c.shape, e, v, old, false).Val, c.shape, e, v, old)
			carriedApart(t, c.what+", "+editWritten(e), impl.Carry(c.shape, e, v, old, true).Val, c.shape, e, v, old)
			carriedApart(t, c.what+", back", impl.Carry(changed, impl.EditBack(e), old, v, true).Val, c.shape, e, v, old)
		}
		s, around := rec(c.shape, num), recVal(v, numVal(1))
		carriedApart(t, c.what+", beside", impl.Carry(s, setOf("b", text, num), around, impl.Val{}, false).Val, s, impl.Edit{}, around)
	}
	none := room(maybeVal())
	carriedApart(t, "a maybe of none on the way", impl.Carry(maybe(num), setOf("*", text, num), none, none, true).Val, num, impl.Edit{}, none)
}

// TestCarriedIsNotKept: what is changed between two calls is asked as it is then, and who changes an answer changes neither
// another one nor what was handed in.
func TestCarriedIsNotKept(t *testing.T) {
	s, e := rec(pick("red", "green"), list(num)), addOf("", 2, "c", pick("x", "y"))
	v := recVal(pickVal("green"), listVal(numVal(1)))
	old := recVal(pickVal("red"), listVal(), pickVal("y"))
	first := impl.Carry(s, e, v, old, true)
	want := impl.ValOut{Val: recVal(pickVal("green"), listVal(numVal(1)), pickVal("y"))}
	sameValOut(t, "as it was", first, want)
	first.Val.Items[1].Items[0] = numVal(9)
	first.Val.Items[2].T = "x"
	clear(first.Val.Items)
	sameValOut(t, "another answer", impl.Carry(s, e, v, old, true), want)
	sameValOut(t, "without the old one", impl.Carry(s, e, v, old, false), impl.ValOut{Val: recVal(pickVal("green"), listVal(numVal(1)), pickVal("x"))})
	old.Items[2].T = "x"
	v.Items[1].Items[0] = numVal(2)
	sameValOut(t, "another old one", impl.Carry(s, e, v, old, true), impl.ValOut{Val: recVal(pickVal("green"), listVal(numVal(2)), pickVal("x"))})
	e.Shape.Syms[0] = "z"
	notCarried(t, "another word", s, e, v, old, true, impl.ErrForm)
	sameValOut(t, "another word", impl.Carry(s, e, v, old, false), impl.ValOut{Val: recVal(pickVal("green"), listVal(numVal(2)), pickVal("z"))})
	s.Names[0] = "c"
	notCarried(t, "another name", s, e, v, old, false, impl.ErrThere)
	e.Kind = impl.EdDrop
	same(t, "another kind", impl.Loses(e), true)
	e.At = -1
	same(t, "another place", impl.Loses(e), false)
}
