package tests

import (
	"fmt"
	"slices"
	"strings"
	"testing"

	"loop.example/g00848/impl"
)

func TestCost(t *testing.T) {
	same(t, "of none", impl.Cost(nil), 0)
	same(t, "of an empty list", impl.Cost([]impl.Edit{}), 0)
	for _, c := range []struct {
		l    string
		want int64
	}{
		{"add / 0 a num", 1},
		{"drop / 0 a num", 1},
		{"name / a b", 0},
		{"sym / 1 a", 0},
		{"unsym / 1 a", 1},
		{"maybe /", 0},
		{"sure /", 1},
		{"list /", 0},
		{"one /", 1},
		{"set / num text", 1},
		{"set / num num", 1},
		{"add /a/*/b 5 a list(num); maybe /", 1},
		{"drop / 0 a num; add / 0 a num", 2},
		{"maybe /; sure /; maybe /; sure /", 2},
		{"name / a b; sym / 1 a; maybe /; list /", 0},
		{"add / 0 a num; drop / 0 a num; name / a b; sym / 1 a; unsym / 1 a; maybe /; sure /; list /; one /; set / num text", 6},
	} {
		l := readEdits(t, strings.Split(c.l, "; ")...)
		same(t, c.l, impl.Cost(l), c.want)
		same(t, c.l+", beside", costBy(l), c.want)
		slices.Reverse(l)
		same(t, c.l+", turned round", impl.Cost(l), c.want)
	}
}

// TestCostOfWrongEdits: one that is not right, at whichever place.
func TestCostOfWrongEdits(t *testing.T) {
	all := oneOfEachKind()
	for _, right := range all {
		for what, turned := range wrongTurns() {
			wrong := editCopied(right)
			turned(&wrong)
			what := fmt.Sprint(what, " of kind ", right.Kind)
			same(t, what, impl.Cost([]impl.Edit{wrong}), -1)
			for place := range len(all) + 1 {
				same(t, fmt.Sprint(what, " at ", place), impl.Cost(slices.Insert(editsCopied(all), place, wrong)), -1)
			}
		}
	}
}

// TestCostOfMany: of exactly MaxList each one counts; of one more it is the number for what is not right.
func TestCostOfMany(t *testing.T) {
	for i, e := range oneOfEachKind() {
		one := costBy([]impl.Edit{e})
		for _, size := range []int{impl.MaxList - 1, impl.MaxList} {
			same(t, fmt.Sprint(size, " of kind ", i+1), impl.Cost(slices.Repeat([]impl.Edit{e}, size)), int64(size)*one)
		}
		for _, size := range []int{impl.MaxList + 1, 2 * impl.MaxList} {
			same(t, fmt.Sprint(size, " of kind ", i+1), impl.Cost(slices.Repeat([]impl.Edit{e}, size)), -1)
		}
	}
	for _, place := range []int{0, 1, impl.MaxList / 2, impl.MaxList - 1} {
		l := wrapped(impl.MaxList)
		l[place] = impl.Edit{}
		same(t, fmt.Sprint("zero at ", place), impl.Cost(l), -1)
	}
	// A path is no list that is handed in as such, but one of too many steps is not right.
	e := bareOf(impl.EdMaybe, "")
	e.Path = manySteps[:impl.MaxList+1]
	same(t, "a path of many steps", impl.Cost([]impl.Edit{e}), -1)
}

// fieldTurns is what makes another edit of one, by one field alone.
func fieldTurns() map[string]func(e *impl.Edit) {
	return map[string]func(e *impl.Edit){
		"another Kind":             func(e *impl.Edit) { e.Kind++ },
		"a Kind beyond 8":          func(e *impl.Edit) { e.Kind += 256 },
		"a step more":              func(e *impl.Edit) { e.Path = append(slices.Clone(e.Path), "*") },
		"a step more ahead":        func(e *impl.Edit) { e.Path = append([]string{"*"}, e.Path...) },
		"an empty step more":       func(e *impl.Edit) { e.Path = append(slices.Clone(e.Path), "") },
		"other steps":              func(e *impl.Edit) { e.Path = []string{"other"} },
		"many steps":               func(e *impl.Edit) { e.Path = manySteps },
		"another At":               func(e *impl.Edit) { e.At = 3 },
		"an At below 0":            func(e *impl.Edit) { e.At = -1 },
		"an At beyond 8":           func(e *impl.Edit) { e.At += 256 },
		"another Name":             func(e *impl.Edit) { e.Name = "other" },
		"a longer Name":            func(e *impl.Edit) { e.Name += "a" },
		"a Name too long":          func(e *impl.Edit) { e.Name = tooLong },
		"another To":               func(e *impl.Edit) { e.To = "other" },
		"a longer To":              func(e *impl.Edit) { e.To += " " },
		"another Shape":            func(e *impl.Edit) { e.Shape = rec(flag) },
		"a Shape around":           func(e *impl.Edit) { e.Shape = maybe(e.Shape) },
		"another Kind of Shape":    func(e *impl.Edit) { e.Shape.Kind = impl.ShText },
		"another word in Shape":    func(e *impl.Edit) { e.Shape.Syms = []string{"other"} },
		"another name in Shape":    func(e *impl.Edit) { e.Shape.Names = []string{"other"} },
		"another part in Shape":    func(e *impl.Edit) { e.Shape.Shapes = []impl.Shape{list(flag)} },
		"a Shape in itself":        func(e *impl.Edit) { e.Shape = ring(impl.ShList) },
		"another Was":              func(e *impl.Edit) { e.Was = rec(flag) },
		"a Was around":             func(e *impl.Edit) { e.Was = list(e.Was) },
		"another Kind of Was":      func(e *impl.Edit) { e.Was.Kind = impl.ShText },
		"another word in Was":      func(e *impl.Edit) { e.Was.Syms = []string{"other"} },
		"another name in Was":      func(e *impl.Edit) { e.Was.Names = []string{"other"} },
		"a part more in Was":       func(e *impl.Edit) { e.Was.Shapes = append(slices.Clone(e.Was.Shapes), flag) },
		"another Was, much deeper": func(e *impl.Edit) { e.Was = lists(1000) },
	}
}

// TestEditSame: of any two edits, right or not, all fields count.
func TestEditSame(t *testing.T) {
	all := append(oneOfEachKind(), impl.Edit{}, impl.Edit{Kind: -1, At: -2, Name: "-"})
	// Of all fields something, which is right for no Kind.
	full := setOf("a*", maybe(pick("x")), rec(num, list(text)))
	full.At, full.Name, full.To = 2, "name", "to"
	all = append(all, full)
	for i, a := range all {
		for j, b := range all {
			same(t, fmt.Sprint(i, " and ", j), impl.EditSame(a, editCopied(b)), i == j)
		}
		for what, turned := range fieldTurns() {
			b := editCopied(a)
			turned(&b)
			what := fmt.Sprint(i, ", ", what)
			same(t, what, impl.EditSame(a, b), false)
			same(t, what+", turned round", impl.EditSame(b, a), false)
			same(t, what+", and it", impl.EditSame(b, b), true)
			c := editCopied(a)
			turned(&c)
			same(t, what+", both", impl.EditSame(b, c), true)
		}
	}
}

// TestEditSameFarWithin: what differs may be the last thing there is.
func TestEditSameFarWithin(t *testing.T) {
	for _, c := range [][2]impl.Edit{
		{addOf("", 0, "a", wide(5)), addOf("", 0, "a", turnedIn(1))},
		{setOf("", num, rec(num, list(rec(num, pick("x", "y"))))), setOf("", num, rec(num, list(rec(num, pick("x", "z")))))},
		{setOf("", lists(4), num), setOf("", list(lists(4)), num)},
		{setOf("", num, text), setOf("", text, num)},
		{nameOf("", "a", "b"), nameOf("", "b", "a")},
		{nameOf("ab", "a", "b"), nameOf("ba", "a", "b")},
		{bareOf(impl.EdMaybe, "*****"), bareOf(impl.EdMaybe, "****a")},
	} {
		same(t, shown(c), impl.EditSame(c[0], c[1]), false)
		same(t, shown(c)+", turned round", impl.EditSame(c[1], c[0]), false)
		for _, e := range c {
			same(t, shown(c)+", the same", impl.EditSame(e, editCopied(e)), true)
		}
	}
	last := turnedIn(1296)
	leaves := leavesOf(&last)
	*leaves[len(leaves)-1] = flag
	same(t, "the last of many", impl.EditSame(setOf("", num, turnedIn(1296)), setOf("", num, last)), false)
	// An empty list and none are the same.
	none := impl.Shape{Kind: impl.ShRec, Syms: []string{}, Names: []string{}, Shapes: []impl.Shape{}}
	same(t, "empty lists", impl.EditSame(impl.Edit{Kind: impl.EdSet, Path: []string{}, Shape: none, Was: none}, impl.Edit{Kind: impl.EdSet, Shape: rec(), Was: rec()}), true)
}
