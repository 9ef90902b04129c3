package tests

import (
	"math/rand"
	"testing"

	"loop.example/g00848/impl"
)

// readsNothing: nothing is read, and nothing is told, of shapes that are not right.
func readsNothing(t *testing.T, what string, w impl.Shape, r impl.Shape, vals ...impl.Val) {
	t.Helper()
	same(t, what, impl.CanRead(w, r), false)
	sameVal(t, what, impl.Witness(w, r), impl.Val{})
	for _, v := range append(vals, impl.Val{}) {
		sameValOut(t, what, impl.Resolve(w, r, v), impl.ValOut{Code: impl.ErrForm})
	}
}

func TestNothingIsReadByWrongShapes(t *testing.T) {
	around := map[string]func(impl.Shape) impl.Shape{
		"":               func(s impl.Shape) impl.Shape { return s },
		"in a list: ":    list,
		"in a maybe: ":   maybe,
		"in a record: ":  func(s impl.Shape) impl.Shape { return rec(num, s) },
		"in a field z: ": func(s impl.Shape) impl.Shape { return recOf("z", s) },
	}
	vals := []impl.Val{listVal(), maybeVal(), recVal(), recVal(numVal(0)), recVal(numVal(0), numVal(0)), valRing(impl.ShList), valRing(impl.ShMaybe)}
	for what, wrong := range wrongShapes() {
		vals := append(vals, impl.Val{Kind: wrong.Kind}, impl.Val{Kind: wrong.Kind, T: "a"}, impl.Val{Kind: wrong.Kind, Items: many(numVal(0), 1)})
		for where, put := range around {
			readsNothing(t, where+what+" by itself", put(wrong), put(wrong), vals...)
			for _, right := range kinds() {
				readsNothing(t, where+what+" by "+right.what, put(wrong), right.shape, append(vals, right.val)...)
				readsNothing(t, right.what+" by "+where+what, right.shape, put(wrong), right.val)
			}
		}
	}
}

// TestWrongWhereNothingIsRead: a shape is refused also for what none of the rules would look at.
func TestWrongWhereNothingIsRead(t *testing.T) {
	wrong := pick()
	readsNothing(t, "a field that goes", recOf("ab", num, wrong), recOf("a", num), recVal(numVal(0), pickVal("a")))
	readsNothing(t, "a field that comes", recOf("a", num), recOf("ab", num, wrong), recVal(numVal(0)))
	readsNothing(t, "the one of a list of none", list(num), list(wrong), listVal())
	readsNothing(t, "the one of a list of none, in w", list(wrong), list(num), listVal())
	readsNothing(t, "the one of a maybe of none", maybe(num), maybe(wrong), maybeVal())
	readsNothing(t, "the one of a maybe of none, in w", maybe(wrong), num, maybeVal())
	readsNothing(t, "of another kind", num, list(wrong), numVal(0))
	readsNothing(t, "of another kind, in w", list(wrong), num, listVal())
	readsNothing(t, "behind another fault", recOf("ab", num, num), recOf("ab", text, wrong), recVal(numVal(0), numVal(0)))
	readsNothing(t, "zero by zero", impl.Shape{}, impl.Shape{})
}

// notRead: of right shapes, and what does not fit the one that is said to have written it.
func notRead(t *testing.T, what string, w impl.Shape, r impl.Shape, v impl.Val) {
	t.Helper()
	sameValOut(t, what, impl.Resolve(w, r, v), impl.ValOut{Code: impl.ErrForm})
}

func TestWhatDoesNotFitIsNotRead(t *testing.T) {
	for _, cases := range [][]fitCase{leafCases(), partCases(), kinds(), strayCases()} {
		for _, c := range cases {
			if c.fits {
				sameValOut(t, c.what, impl.Resolve(c.shape, c.shape, c.val), impl.ValOut{Val: c.val})
				continue
			}
			notRead(t, c.what, c.shape, c.shape, c.val)
			notRead(t, "by a maybe: "+c.what, c.shape, maybe(num), c.val)
			for _, other := range kinds() {
				notRead(t, "by "+other.what+": "+c.what, c.shape, other.shape, c.val)
			}
			if impl.DeepOf(c.shape) == impl.MaxDeep {
				continue
			}
			notRead(t, "in a maybe: "+c.what, maybe(c.shape), c.shape, maybeVal(c.val))
			notRead(t, "in a list: "+c.what, list(c.shape), num, listVal(c.val))
			notRead(t, "in a field that goes: "+c.what, recOf("ab", num, c.shape), recOf("a", num), recVal(numVal(0), c.val))
		}
	}
	for _, a := range kinds() {
		for _, b := range kinds() {
			if a.shape.Kind != b.shape.Kind {
				notRead(t, a.what+" handed in as "+b.what, b.shape, a.shape, a.val)
			}
		}
	}
}

// TestFormIsToldFirst: ahead of all that reading could tell.
func TestFormIsToldFirst(t *testing.T) {
	wrong := numVal(-1)
	notRead(t, "ahead of ErrNone", rec(maybe(num), num), rec(num, num), recVal(maybeVal(), wrong))
	notRead(t, "ahead of ErrState", rec(num, num), rec(text, num), recVal(numVal(0), wrong))
	notRead(t, "ahead of ErrRange", rec(pick("a", "b"), num), rec(pick("a"), num), recVal(pickVal("b"), wrong))
	notRead(t, "a sym that only r has", pick("a"), pick("a", "b"), pickVal("b"))
	notRead(t, "an Item that only r has", num, maybe(num), maybeVal(numVal(0)))
	notRead(t, "what r has in a maybe", maybe(num), num, numVal(0))
	notRead(t, "a field that only r has", rec(num), rec(num, num), recVal(numVal(0), numVal(0)))
}

// TestTurnedValsAreNotRead turns what fits in one place.
func TestTurnedValsAreNotRead(t *testing.T) {
	random := rand.New(rand.NewSource(22))
	refused := 0
	for range 2000 {
		w := someShape(random, 1+random.Intn(impl.MaxDeep))
		r := beside(random, w)
		v := someVal(random, w)
		all := valsOf(&v)
		turn(random, all[random.Intn(len(all))])
		if fitting(w, v) {
			sameValOut(t, shown(v), impl.Resolve(w, r, v), resolvedBy(w, r, v))
			continue
		}
		refused++
		notRead(t, shown(v)+" by "+written(w), w, r, v)
	}
	same(t, "enough do not fit", refused > 500, true)
}
