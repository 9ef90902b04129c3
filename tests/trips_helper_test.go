package tests

import (
	"fmt"
	"math/rand"
	"slices"
	"testing"

	"loop.example/g00848/impl"
)

// shapesBy is the shapes that right edits lead through, told beside the program; none, if one can not be done.
func shapesBy(s impl.Shape, l []impl.Edit) []impl.Shape {
	shapes := []impl.Shape{copied(s)}
	for i, e := range l {
		whole, code := editedBy(shapes[i], e)
		if code != impl.OK {
			return nil
		}
		shapes = append(shapes, impl.ShapeRead(whole).Shape)
	}
	return shapes
}

// fittingTrip tells beside the program whether these are as many as the right shapes, and fit them.
func fittingTrip(shapes []impl.Shape, stages []impl.Val) bool {
	if len(shapes) == 0 || len(shapes) != len(stages) {
		return false
	}
	for i, s := range shapes {
		if !fitting(s, stages[i]) {
			return false
		}
	}
	return true
}

// stoodAt is what stood there, or none.
func stoodAt(stood []impl.Val, at int) []impl.Val {
	if len(stood) == 0 {
		return nil
	}
	return stood[at : at+1]
}

// rightBy is the stages from the first shape to the last one, told beside the program.
func rightBy(shapes []impl.Shape, l []impl.Edit, v impl.Val, stood []impl.Val) []impl.Val {
	stages := []impl.Val{v}
	for i, e := range l {
		stages = append(stages, carriedBy(shapes[i], e, stages[i], stoodAt(stood, i+1)...))
	}
	return stages
}

// leftBy is the stages from the last shape to the first one, in the order of the shapes, told beside the program.
func leftBy(shapes []impl.Shape, l []impl.Edit, v impl.Val, stood []impl.Val) []impl.Val {
	stages := []impl.Val{v}
	for i := len(l) - 1; i >= 0; i-- {
		before := carriedBy(shapes[i+1], backBy(l[i]), stages[0], stoodAt(stood, i)...)
		stages = append([]impl.Val{before}, stages...)
	}
	return stages
}

// trimBy takes out of right edits what Trim should, and begins anew each time.
func trimBy(l []impl.Edit) []impl.Edit {
	for i := range l[:max(len(l)-1, 0)] {
		if !losesBy(l[i]) && editAlike(backBy(l[i]), l[i+1]) {
			return trimBy(slices.Concat(l[:i], l[i+2:]))
		}
	}
	return l
}

func sameShapes(t *testing.T, what string, got []impl.Shape, want []impl.Shape) {
	t.Helper()
	if !slices.EqualFunc(got, want, alike) {
		t.Errorf("%s: got %s, want %s", what, shown(got), shown(want))
	}
}

func sameTrip(t *testing.T, what string, got impl.TripOut, want impl.TripOut) {
	t.Helper()
	if got.Code != want.Code || !slices.EqualFunc(got.Stages, want.Stages, valAlike) {
		t.Errorf("%s: got %s, want %s", what, shown(got), shown(want))
	}
}

// notGone: both ways that code is told, and nothing beside it.
func notGone(t *testing.T, what string, s impl.Shape, l []impl.Edit, v impl.Val, stages []impl.Val, code int64) {
	t.Helper()
	sameTrip(t, what+", right", impl.Right(s, l, v, stages), impl.TripOut{Code: code})
	sameTrip(t, what+", left", impl.Left(s, l, v, stages), impl.TripOut{Code: code})
}

// noTrip: there are no such shapes, whatever is at the ends, and whatever stood there; v may be anything.
func noTrip(t *testing.T, what string, s impl.Shape, l []impl.Edit, v impl.Val) {
	t.Helper()
	sameShapes(t, what, impl.Along(s, l), nil)
	for _, stages := range [][]impl.Val{nil, {}, {v}, many(v, len(l)), many(v, len(l)+1), many(v, len(l)+2), {{}}} {
		same(t, what+": TripRight", impl.TripRight(s, l, stages), false)
		notGone(t, what, s, l, v, stages, impl.ErrForm)
	}
}

// thereAndBack holds promise 10 of what a trip told: each stage is what it was, whichever way they are gone through again.
func thereAndBack(t *testing.T, what string, s impl.Shape, l []impl.Edit, stages []impl.Val) {
	t.Helper()
	same(t, what+": TripRight", impl.TripRight(s, l, stages), true)
	want := impl.TripOut{Stages: stages}
	left := impl.Left(s, l, stages[len(l)], stages)
	sameTrip(t, what+", back", left, want)
	sameTrip(t, what+", back, and there again", impl.Right(s, l, left.Stages[0], left.Stages), want)
	right := impl.Right(s, l, stages[0], stages)
	sameTrip(t, what+", there again", right, want)
	sameTrip(t, what+", there again, and back", impl.Left(s, l, right.Stages[len(l)], right.Stages), want)
}

// tripsAsBeside holds both ways of a trip that there is against what is told beside the program; v fits the first shape, w
// the last one, and what stood there is a right trip, or none.
func tripsAsBeside(t *testing.T, s impl.Shape, l []impl.Edit, v impl.Val, w impl.Val, stood ...impl.Val) {
	t.Helper()
	what := fmt.Sprint(editsWritten(l), " of ", written(s), ", ", len(stood), " stages")
	shapes := shapesBy(s, l)
	sameShapes(t, what+": Along", impl.Along(s, l), shapes)
	same(t, what+": TripRight", impl.TripRight(s, l, stood), fittingTrip(shapes, stood))
	right := impl.Right(s, l, v, stood)
	sameTrip(t, what+", right", right, impl.TripOut{Stages: rightBy(shapes, l, v, stood)})
	same(t, what+", right: fits", fittingTrip(shapes, right.Stages), true)
	left := impl.Left(s, l, w, stood)
	sameTrip(t, what+", left", left, impl.TripOut{Stages: leftBy(shapes, l, w, stood)})
	same(t, what+", left: fits", fittingTrip(shapes, left.Stages), true)
	if t.Failed() {
		return
	}
	thereAndBack(t, what+", right", s, l, right.Stages)
	thereAndBack(t, what+", left", s, l, left.Stages)
}

// likelyTrip is what fits each of the shapes, whatever the others are.
func likelyTrip(random *rand.Rand, shapes []impl.Shape) []impl.Val {
	stages := []impl.Val{}
	for _, s := range shapes {
		stages = append(stages, likelyVal(random, s))
	}
	return stages
}

// besideTrip is unlike that right trip here and there, or nowhere.
func besideTrip(random *rand.Rand, shapes []impl.Shape, trip []impl.Val) []impl.Val {
	stages := []impl.Val{}
	for i, s := range shapes {
		stages = append(stages, besideVal(random, s, trip[i]))
	}
	return stages
}

// someTrip is a shape, right edits that can be done, and the shapes that they lead through.
func someTrip(random *rand.Rand, most int) (impl.Shape, []impl.Edit, []impl.Shape) {
	s := impl.ShapeRead("rec(a:num,b:list(pick(x,y,z)),c:maybe(text))").Shape
	if random.Intn(2) == 0 {
		s = someShape(random, 1+random.Intn(3))
	}
	l, _ := someEdits(random, s, random.Intn(most+1))
	return s, l, shapesBy(s, l)
}

// padded is edits by which the right shape becomes the same, but with more of such that come to nothing.
func padded(random *rand.Rand, s impl.Shape, l []impl.Edit) []impl.Edit {
	out := []impl.Edit{}
	for _, more := range append(l, impl.Edit{}) {
		for range random.Intn(3) {
			e := someEdit(random, s)
			whole, code := editedBy(s, e)
			if code != impl.OK || losesBy(e) || len(whole) > 1000 {
				continue
			}
			within := []impl.Edit{}
			if random.Intn(2) == 0 {
				within = padded(random, impl.ShapeRead(whole).Shape, nil)
			}
			out = slices.Concat(out, []impl.Edit{e}, within, []impl.Edit{backBy(e)})
		}
		if more.Kind != 0 {
			whole, _ := editedBy(s, more)
			out, s = append(out, more), impl.ShapeRead(whole).Shape
		}
	}
	return out
}
