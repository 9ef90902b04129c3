package tests

import (
	"math/rand"
	"slices"
	"testing"

	"loop.example/g00848/impl"
)

// readOne is what one shape wrote, and what another one makes of it.
type readOne struct {
	v    impl.Val
	want impl.ValOut
}

// readCase is a shape that wrote, and one that reads.
type readCase struct {
	what string
	w    impl.Shape
	r    impl.Shape
	// witness is zero where all can be read.
	witness impl.Val
	ones    []readOne
}

func isRead(v impl.Val, as impl.Val) readOne {
	return readOne{v, impl.ValOut{Val: as}}
}

func isNotRead(v impl.Val, code int64) readOne {
	return readOne{v, impl.ValOut{Code: code}}
}

// recOf has fields of one letter each.
func recOf(names string, shapes ...impl.Shape) impl.Shape {
	s := rec(shapes...)
	for i := range shapes {
		s.Names[i] = names[i : i+1]
	}
	return s
}

// resolvesAsSaid asks of both shapes alone, and of both within others.
func resolvesAsSaid(t *testing.T, c readCase) {
	t.Helper()
	resolvesAlone(t, c)
	if max(impl.DeepOf(c.w), impl.DeepOf(c.r)) == impl.MaxDeep {
		return
	}
	resolvesAlone(t, c.within("in a maybe: ", maybe, func(v impl.Val) impl.Val { return maybeVal(v) }))
	resolvesAlone(t, c.within("in a list: ", list, func(v impl.Val) impl.Val { return listVal(v) }))
	resolvesAlone(t, c.within("last in a record: ", func(s impl.Shape) impl.Shape { return rec(num, s) }, func(v impl.Val) impl.Val { return recVal(numVal(0), v) }))
	resolvesAlone(t, c.within("first in a record: ", func(s impl.Shape) impl.Shape { return rec(s, num) }, func(v impl.Val) impl.Val { return recVal(v, numVal(0)) }))
}

// within is the same with something around all of it.
func (c readCase) within(what string, around func(impl.Shape) impl.Shape, aroundVal func(impl.Val) impl.Val) readCase {
	out := readCase{what: what + c.what, w: around(c.w), r: around(c.r)}
	if c.witness.Kind != 0 {
		out.witness = aroundVal(c.witness)
	}
	for _, one := range c.ones {
		want := one.want
		if want.Code == impl.OK {
			want.Val = aroundVal(want.Val)
		}
		out.ones = append(out.ones, readOne{aroundVal(one.v), want})
	}
	return out
}

// resolvesAlone: promise 6 of one case, and what the case says.
func resolvesAlone(t *testing.T, c readCase) {
	t.Helper()
	what := c.what + ": " + written(c.w) + " by " + written(c.r)
	can := c.witness.Kind == 0
	same(t, "CanRead: "+what, impl.CanRead(c.w, c.r), can)
	got := impl.Witness(c.w, c.r)
	sameVal(t, "Witness: "+what, got, c.witness)
	if !can {
		same(t, "the Witness fits: "+what, fitting(c.w, got), true)
		same(t, "the Witness is not read: "+what, impl.Resolve(c.w, c.r, got).Code != impl.OK, true)
	}
	for _, one := range c.ones {
		got := impl.Resolve(c.w, c.r, one.v)
		sameValOut(t, shown(one.v)+": "+what, got, one.want)
		same(t, "what is read fits: "+what, got.Code != impl.OK || fitting(c.r, got.Val), true)
		same(t, "what can be read is read: "+what, can && got.Code != impl.OK, false)
	}
}

// readPart is something that is read for an answer's Items.
type readPart struct {
	w impl.Shape
	r impl.Shape
	v impl.Val
}

func fieldNamed(s impl.Shape, name string) int {
	return slices.Index(s.Names, name)
}

// readParts is what stands in it, where both Kinds are the same.
func readParts(w impl.Shape, r impl.Shape, v impl.Val) []readPart {
	out := []readPart{}
	if w.Kind != impl.ShRec {
		for _, item := range v.Items {
			out = append(out, readPart{w.Shapes[0], r.Shapes[0], item})
		}
		return out
	}
	for i, part := range r.Shapes {
		place := fieldNamed(w, r.Names[i])
		if place < 0 {
			out = append(out, readPart{part, part, impl.Blank(part)})
			continue
		}
		out = append(out, readPart{w.Shapes[place], part, v.Items[place]})
	}
	return out
}

// resolvedBy is what is read of what fits, taken apart beside the program.
func resolvedBy(w impl.Shape, r impl.Shape, v impl.Val) impl.ValOut {
	out := impl.Val{Kind: r.Kind}
	parts := []readPart{}
	fromMaybe, byMaybe := w.Kind == impl.ShMaybe, r.Kind == impl.ShMaybe
	switch {
	case fromMaybe && !byMaybe && len(v.Items) == 0:
		return impl.ValOut{Code: impl.ErrNone}
	case fromMaybe && !byMaybe:
		return resolvedBy(w.Shapes[0], r, v.Items[0])
	case byMaybe && !fromMaybe:
		parts = []readPart{{w, r.Shapes[0], v}}
	case w.Kind != r.Kind:
		return impl.ValOut{Code: impl.ErrState}
	case w.Kind == impl.ShPick && !slices.Contains(r.Syms, v.T):
		return impl.ValOut{Code: impl.ErrRange}
	default:
		out.N, out.T = v.N, v.T
		parts = readParts(w, r, v)
	}
	for _, part := range parts {
		got := resolvedBy(part.w, part.r, part.v)
		if got.Code != impl.OK {
			return got
		}
		out.Items = append(out.Items, got.Val)
	}
	return impl.ValOut{Val: out}
}

// tellingVals fit that shape, and if there is something that is not read, one of them is not: each has one thing in it
// that could be the fault.
func tellingVals(s impl.Shape) []impl.Val {
	out := []impl.Val{impl.Blank(s)}
	for _, sym := range s.Syms {
		out = append(out, pickVal(sym))
	}
	for i, part := range s.Shapes {
		for _, item := range tellingVals(part) {
			v := impl.Blank(s)
			if s.Kind == impl.ShRec {
				v.Items[i] = item
			} else {
				v.Items = []impl.Val{item}
			}
			out = append(out, v)
		}
	}
	return out
}

// readableBy tells beside the program whether all is read.
func readableBy(w impl.Shape, r impl.Shape) bool {
	for _, v := range tellingVals(w) {
		if resolvedBy(w, r, v).Code != impl.OK {
			return false
		}
	}
	return true
}

// witnessBy is a Witness, put together beside the program.
func witnessBy(w impl.Shape, r impl.Shape) impl.Val {
	if readableBy(w, r) {
		return impl.Val{}
	}
	fromMaybe, byMaybe := w.Kind == impl.ShMaybe, r.Kind == impl.ShMaybe
	switch {
	case fromMaybe && !byMaybe:
		return maybeVal()
	case byMaybe && !fromMaybe:
		return witnessBy(w, r.Shapes[0])
	case w.Kind != r.Kind:
		return impl.Blank(w)
	case w.Kind == impl.ShMaybe || w.Kind == impl.ShList:
		return impl.Val{Kind: w.Kind, Items: []impl.Val{witnessBy(w.Shapes[0], r.Shapes[0])}}
	}
	for _, sym := range w.Syms {
		if !slices.Contains(r.Syms, sym) {
			return pickVal(sym)
		}
	}
	v := impl.Blank(w)
	for i, name := range r.Names {
		place := fieldNamed(w, name)
		if place >= 0 && !readableBy(w.Shapes[place], r.Shapes[i]) {
			v.Items[place] = witnessBy(w.Shapes[place], r.Shapes[i])
			break
		}
	}
	return v
}

// resolvesAsBeside holds against what is told beside the program; it tells whether all can be read.
func resolvesAsBeside(t *testing.T, w impl.Shape, r impl.Shape, more ...impl.Val) bool {
	t.Helper()
	c := readCase{what: "beside", w: w, r: r, witness: witnessBy(w, r)}
	for _, v := range append(tellingVals(w), more...) {
		c.ones = append(c.ones, readOne{v, resolvedBy(w, r, v)})
	}
	resolvesAlone(t, c)
	return c.witness.Kind == 0
}

// beside is a right shape that is unlike that one here and there, or nowhere.
func beside(random *rand.Rand, s impl.Shape) impl.Shape {
	const tries = 20
	for range tries {
		out := besideOnce(random, s)
		if impl.ShapeRight(out) {
			return out
		}
	}
	return copied(s)
}

// besideOnce may be too deep, or have too many words.
func besideOnce(random *rand.Rand, s impl.Shape) impl.Shape {
	s = copied(s)
	switch random.Intn(14) {
	case 0, 1:
		return maybe(s)
	case 2:
		if s.Kind == impl.ShMaybe {
			return s.Shapes[0]
		}
	case 3:
		return someShape(random, 2)
	case 4, 5:
		random.Shuffle(len(s.Syms), func(i, j int) { s.Syms[i], s.Syms[j] = s.Syms[j], s.Syms[i] })
		random.Shuffle(len(s.Names), func(i, j int) {
			s.Names[i], s.Names[j] = s.Names[j], s.Names[i]
			s.Shapes[i], s.Shapes[j] = s.Shapes[j], s.Shapes[i]
		})
	case 6, 7:
		s = wordMore(random, s)
	case 8, 9:
		s = wordLess(s)
	}
	for i, part := range s.Shapes {
		s.Shapes[i] = besideOnce(random, part)
	}
	return s
}

func wordMore(random *rand.Rand, s impl.Shape) impl.Shape {
	for _, word := range someWords(random, 1) {
		switch s.Kind {
		case impl.ShPick:
			s.Syms = slices.Insert(s.Syms, random.Intn(len(s.Syms)+1), word)
		case impl.ShRec:
			place := random.Intn(len(s.Names) + 1)
			s.Names = slices.Insert(s.Names, place, word)
			s.Shapes = slices.Insert(s.Shapes, place, someShape(random, 2))
		}
	}
	return s
}

func wordLess(s impl.Shape) impl.Shape {
	if len(s.Syms) > 1 {
		s.Syms = s.Syms[1:]
	}
	if len(s.Names) > 0 {
		s.Names, s.Shapes = s.Names[1:], s.Shapes[1:]
	}
	return s
}
