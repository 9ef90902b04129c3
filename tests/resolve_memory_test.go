package tests

import (
	"math/rand"
	"reflect"
	"slices"
	"testing"

	"loop.example/g00848/impl"
)

// textsOf is all texts of a Val.
func textsOf(v impl.Val) []string {
	out := []string{}
	for _, one := range valsOf(&v) {
		out = append(out, one.T)
	}
	return out
}

// apartFrom fails if an answer has memory of what was handed in, or the same memory in two places.
func apartFrom(t *testing.T, what string, answer impl.Val, w impl.Shape, r impl.Shape, v impl.Val) {
	t.Helper()
	apartAll(t, append(valStretches(answer, what), valStretches(v, "handed in")...))
	handed := slices.Concat(textsOf(v), wordsOf(w), wordsOf(r))
	for _, text := range textsOf(answer) {
		for _, other := range handed {
			apart(t, what, text, other)
		}
	}
}

func TestResolveIsNewMemory(t *testing.T) {
	random := rand.New(rand.NewSource(23))
	read, unread := 0, 0
	for range 500 {
		w := someShape(random, 1+random.Intn(4))
		if impl.NodesOf(w) > 60 {
			continue
		}
		r := beside(random, w)
		v := someVal(random, w)
		got := impl.Resolve(w, r, v)
		apartFrom(t, "Resolve", got.Val, w, r, v)
		if got.Code == impl.OK {
			read++
		}
		witness := impl.Witness(w, r)
		apartFrom(t, "Witness", witness, w, r, v)
		if witness.Kind != 0 {
			unread++
		}
	}
	same(t, "enough are read, and enough are not", read > 50 && unread > 50, true)
}

// TestBlanksStandAlone: a field that was not written comes as often as there are records, each time in new memory.
func TestBlanksStandAlone(t *testing.T) {
	w := list(recOf("a", num))
	r := list(recOf("abc", num, rec(list(num), pick("z")), pick("z")))
	v := listVal(many(recVal(numVal(1)), 6)...)
	got := impl.Resolve(w, r, v).Val
	apartFrom(t, "Resolve", got, w, r, v)
	want := impl.Resolve(w, r, v)
	got.Items[0].Items[1].Items[0] = numVal(9)
	got.Items[0].Items[2].T = "y"
	sameVal(t, "the record behind it", got.Items[1], recVal(numVal(1), recVal(listVal(), pickVal("z")), pickVal("z")))
	sameValOut(t, "another answer", impl.Resolve(w, r, v), want)
}

// TestEmptyListsAreNotHandedOn: a list of none may have room, which is not the answer's.
func TestEmptyListsAreNotHandedOn(t *testing.T) {
	for _, c := range plainKinds() {
		if c.shape.Kind == impl.ShList || c.shape.Kind == impl.ShRec {
			continue
		}
		v := valCopied(c.val)
		v.Items = make([]impl.Val, 0, 5)
		for _, r := range []impl.Shape{c.shape, maybe(c.shape)} {
			got := impl.Resolve(c.shape, r, v)
			same(t, c.what, got.Code, impl.OK)
			apartFrom(t, c.what, got.Val, c.shape, r, v)
		}
	}
	for kind, s := range map[int64]impl.Shape{impl.ShMaybe: maybe(num), impl.ShList: list(num), impl.ShRec: rec()} {
		v := impl.Val{Kind: kind, Items: make([]impl.Val, 0, 5)}
		for _, r := range []impl.Shape{s, maybe(s)} {
			apartFrom(t, "empty", impl.Resolve(s, r, v).Val, s, r, v)
		}
	}
}

func TestReadIsNotChanged(t *testing.T) {
	random := rand.New(rand.NewSource(24))
	for range 300 {
		w := someShape(random, impl.MaxDeep)
		r := beside(random, w)
		v := someVal(random, w)
		wBefore, rBefore, vBefore := copied(w), copied(r), valCopied(v)
		impl.Resolve(w, r, v)
		impl.Resolve(r, w, v)
		impl.CanRead(w, r)
		impl.Witness(w, r)
		impl.Witness(list(w), maybe(r))
		same(t, "w as it was", alike(w, wBefore), true)
		same(t, "r as it was", alike(r, rBefore), true)
		same(t, "the Val as it was", valAlike(v, vBefore), true)
	}
}

// TestNothingIsPutBehindRead: a list that is handed in may have room behind its end, which is not the program's.
func TestNothingIsPutBehindRead(t *testing.T) {
	syms := []string{"a", "b", "behind"}
	shapes := []impl.Shape{pick(syms[:2]...), maybe(num), text}
	items := []impl.Val{pickVal("b"), maybeVal(numVal(1)), textVal("behind")}
	w := impl.Shape{Kind: impl.ShRec, Names: []string{"a", "b"}, Shapes: shapes[:2]}
	r := recOf("abc", pick("b"), num, text)
	v := recVal(items[:2]...)
	sameValOut(t, "Resolve", impl.Resolve(w, r, v), impl.ValOut{Val: recVal(pickVal("b"), numVal(1), textVal(""))})
	sameValOut(t, "Resolve, the other way round", impl.Resolve(r, w, recVal(pickVal("b"), numVal(1), textVal("c"))), impl.ValOut{Val: v})
	same(t, "CanRead", impl.CanRead(r, w), true)
	sameVal(t, "Witness", impl.Witness(w, r), recVal(pickVal("a"), maybeVal()))
	same(t, "syms", syms[2], "behind")
	same(t, "shapes", reflect.DeepEqual(shapes[2], text), true)
	sameVal(t, "items", items[2], textVal("behind"))
}

// TestReadingsAreNotKept: a shape that is changed between two calls is read as it is then, and who changes an answer
// changes no other one.
func TestReadingsAreNotKept(t *testing.T) {
	w, r := rec(pick("red", "green"), num), rec(pick("red"), num)
	v := recVal(pickVal("green"), numVal(1))
	sameValOut(t, "as it was", impl.Resolve(w, r, v), impl.ValOut{Code: impl.ErrRange})
	same(t, "as it was", impl.CanRead(w, r), false)
	witness := impl.Witness(w, r)
	witness.Items[0].T = "blue"
	sameVal(t, "as it was", impl.Witness(w, r), recVal(pickVal("green"), numVal(0)))
	r.Shapes[0].Syms[0] = "green"
	sameVal(t, "another sym", impl.Witness(w, r), recVal(pickVal("red"), numVal(0)))
	first := impl.Resolve(w, r, v)
	sameValOut(t, "another sym", first, impl.ValOut{Val: v})
	first.Val.Items[1].N = 9
	sameValOut(t, "another sym, again", impl.Resolve(w, r, v), impl.ValOut{Val: v})
	w.Shapes[0].Syms = w.Shapes[0].Syms[1:]
	same(t, "all syms", impl.CanRead(w, r), true)
	sameVal(t, "all syms", impl.Witness(w, r), impl.Val{})
	r.Shapes[1] = flag
	sameValOut(t, "another kind", impl.Resolve(w, r, v), impl.ValOut{Code: impl.ErrState})
	same(t, "another kind", impl.CanRead(w, r), false)
}
