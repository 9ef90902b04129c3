package tests

import (
	"fmt"
	"math/rand"
	"slices"
	"strings"
	"testing"

	"loop.example/g00848/impl"
)

// place is something in a shape, and the steps that lead to it.
type place struct {
	path []string
	part impl.Shape
}

// placesOf goes through all of a right shape beside the program, in the order that the document names.
func placesOf(s impl.Shape, ahead ...string) []place {
	out := []place{{slices.Clone(ahead), s}}
	for i, part := range s.Shapes {
		step := "*"
		if s.Kind == impl.ShRec {
			step = s.Names[i]
		}
		out = append(out, placesOf(part, append(slices.Clone(ahead), step)...)...)
	}
	return out
}

// placeAt looks for the path among all that there are.
func placeAt(s impl.Shape, p []string) (impl.Shape, bool) {
	for _, one := range placesOf(s) {
		if slices.Equal(one.path, p) {
			return one.part, true
		}
	}
	return impl.Shape{}, false
}

// writtenWith is the text of a right shape, but with that of another one at that place.
func writtenWith(s impl.Shape, p []string, part impl.Shape) string {
	if len(p) == 0 {
		return written(part)
	}
	fields := []string{}
	for i, name := range s.Names {
		inner := written(s.Shapes[i])
		if name == p[0] {
			inner = writtenWith(s.Shapes[i], p[1:], part)
		}
		fields = append(fields, name+":"+inner)
	}
	switch s.Kind {
	case impl.ShMaybe:
		return "maybe(" + writtenWith(s.Shapes[0], p[1:], part) + ")"
	case impl.ShList:
		return "list(" + writtenWith(s.Shapes[0], p[1:], part) + ")"
	}
	return "rec(" + strings.Join(fields, ",") + ")"
}

func samePath(t *testing.T, what string, got []string, want []string) {
	t.Helper()
	if !slices.Equal(got, want) {
		t.Errorf("%s: got %s, want %s", what, shown(got), shown(want))
	}
}

func samePartOut(t *testing.T, what string, got impl.PartOut, want impl.PartOut) {
	t.Helper()
	if got.Code != want.Code || !alike(got.Shape, want.Shape) {
		t.Errorf("%s: got %s, want %s", what, shown(got), shown(want))
	}
}

func samePaths(t *testing.T, what string, got [][]string, want [][]string) {
	t.Helper()
	if !slices.EqualFunc(got, want, slices.Equal) {
		t.Errorf("%s: got %s, want %s", what, shown(got), shown(want))
	}
}

// leadsAsBeside holds PartAt and Swap of a right shape, path and part against what is told beside the program, and tells
// whether the path leads somewhere.
func leadsAsBeside(t *testing.T, s impl.Shape, p []string, part impl.Shape) bool {
	t.Helper()
	what := fmt.Sprintf("%q in %s", p, written(s))
	was, found := placeAt(s, p)
	if !found {
		samePartOut(t, what, impl.PartAt(s, p), impl.PartOut{Code: impl.ErrNone})
		sameShapeOut(t, what, impl.Swap(s, p, part), impl.ShapeOut{Code: impl.ErrNone})
		return false
	}
	samePartOut(t, what, impl.PartAt(s, p), impl.PartOut{Shape: was})
	sameShapeOut(t, what+": what stood there", impl.Swap(s, p, was), impl.ShapeOut{Shape: s})
	what += " by " + written(part)
	got := impl.Swap(s, p, part)
	if len(p)+int(impl.DeepOf(part)) > impl.MaxDeep {
		sameShapeOut(t, what, got, impl.ShapeOut{Code: impl.ErrFull})
		return true
	}
	same(t, what, got.Code, impl.OK)
	same(t, what, written(got.Shape), writtenWith(s, p, part))
	same(t, what+": is right", impl.ShapeRight(got.Shape), true)
	samePartOut(t, what+": is there", impl.PartAt(got.Shape, p), impl.PartOut{Shape: part})
	return true
}

// somePath is any right path, more often than not one that leads somewhere.
func somePath(random *rand.Rand, s impl.Shape) []string {
	all := placesOf(s)
	p := slices.Clone(all[random.Intn(len(all))].path)
	switch random.Intn(6) {
	case 0:
		p = append(p, "*")
	case 1:
		p = append(p, someWords(random, 1)...)
	case 2:
		if len(p) > 0 {
			p[random.Intn(len(p))] = "*"
		}
	}
	return p
}

// pathStretches is where the list, and all lists in it, lie.
func pathStretches(paths [][]string, what string) []stretch {
	out := []stretch{stretchOf(what, paths)}
	for i, p := range paths {
		out = append(out, stretchOf(fmt.Sprint(what, " ", i), p))
	}
	return out
}
