package tests

import (
	"math/rand"
	"slices"
	"testing"

	"loop.example/g00848/impl"
)

// stayingBy is the words that stay where one list becomes the other one, told beside the program.
func stayingBy(from []string, to []string) []string {
	stayed := []string{}
	for _, word := range from {
		stays := slices.Contains(to, word)
		for _, ahead := range stayed {
			stays = stays && slices.Index(to, word) > slices.Index(to, ahead)
		}
		if stays {
			stayed = append(stayed, word)
		}
	}
	return stayed
}

// diffBy is the edits by which one right shape becomes the other one, told beside the program.
func diffBy(x impl.Shape, y impl.Shape, ahead ...string) []impl.Edit {
	from, to := written(x), written(y)
	kind := int64(impl.EdSet)
	switch {
	case from == to:
		return nil
	case to == "maybe("+from+")":
		kind = impl.EdMaybe
	case from == "maybe("+to+")":
		kind = impl.EdSure
	case to == "list("+from+")":
		kind = impl.EdList
	case from == "list("+to+")":
		kind = impl.EdOne
	case x.Kind != y.Kind:
	case x.Kind == impl.ShMaybe || x.Kind == impl.ShList:
		return diffBy(x.Shapes[0], y.Shapes[0], append(slices.Clone(ahead), "*")...)
	case x.Kind == impl.ShRec || x.Kind == impl.ShPick && x.Syms[0] == y.Syms[0]:
		return wordsDiffBy(x, y, ahead)
	}
	if kind == impl.EdSet {
		return []impl.Edit{{Kind: kind, Path: ahead, Shape: y, Was: x}}
	}
	return []impl.Edit{{Kind: kind, Path: ahead}}
}

// wordsDiffBy is that of two ShRec, or of two ShPick.
func wordsDiffBy(x impl.Shape, y impl.Shape, ahead []string) []impl.Edit {
	from, to := slices.Concat(x.Syms, x.Names), slices.Concat(y.Syms, y.Names)
	stayed := stayingBy(from, to)
	out := []impl.Edit{}
	for i := len(from) - 1; i >= 0; i-- {
		switch {
		case slices.Contains(stayed, from[i]):
		case x.Kind == impl.ShRec:
			out = append(out, impl.Edit{Kind: impl.EdDrop, Path: ahead, At: int64(i), Name: from[i], Shape: x.Shapes[i]})
		default:
			out = append(out, impl.Edit{Kind: impl.EdUnsym, Path: ahead, At: int64(i), Name: from[i]})
		}
	}
	for i, word := range to {
		stays := slices.Contains(stayed, word)
		switch {
		case stays && x.Kind == impl.ShRec:
			out = append(out, diffBy(x.Shapes[fieldNamed(x, word)], y.Shapes[i], append(slices.Clone(ahead), word)...)...)
		case stays:
		case x.Kind == impl.ShRec:
			out = append(out, impl.Edit{Kind: impl.EdAdd, Path: ahead, At: int64(i), Name: word, Shape: y.Shapes[i]})
		default:
			out = append(out, impl.Edit{Kind: impl.EdSym, Path: ahead, At: int64(i), Name: word})
		}
	}
	return out
}

// costBy is the Cost of right edits, told beside the program.
func costBy(l []impl.Edit) int64 {
	cost := 0
	for _, e := range l {
		if losesBy(e) || e.Kind == impl.EdAdd {
			cost++
		}
	}
	return int64(cost)
}

// becomes holds promise 11: by these edits, which are at most MaxList, one shape becomes the other one, and back.
func becomes(t *testing.T, what string, a impl.Shape, b impl.Shape, l []impl.Edit) {
	t.Helper()
	sameShapeOut(t, what+": becomes", impl.EditsApply(a, l), impl.ShapeOut{Shape: b})
	sameShapeOut(t, what+": and back", impl.EditsApply(b, impl.EditsBack(l)), impl.ShapeOut{Shape: a})
}

// differsAs holds DiffOf right shapes against what it should tell, and against what is told beside the program.
func differsAs(t *testing.T, a impl.Shape, b impl.Shape, want []impl.Edit) {
	t.Helper()
	what := written(a) + " to " + written(b)
	got := impl.DiffOf(a, b)
	sameEdits(t, what, got, want)
	sameEdits(t, what+", beside", diffBy(a, b), want)
	becomes(t, what, a, b, got)
	same(t, what+": Cost", impl.Cost(got), costBy(want))
}

// differsAsBeside tells how many edits lie between the two.
func differsAsBeside(t *testing.T, a impl.Shape, b impl.Shape) int {
	t.Helper()
	want := diffBy(a, b)
	differsAs(t, a, b, want)
	return len(want)
}

// diffFrame is a shape's text with a % for what is put there, where that stands, and which edits, if they were all there is
// of what is put there, are told of the whole instead.
type diffFrame struct {
	s     string
	steps string
	whole []int64
}

func diffFrames() []diffFrame {
	return []diffFrame{
		{"%", "", nil},
		// A maybe of something, and a maybe of a maybe of it: the latter is a maybe of the former.
		{"maybe(%)", "*", []int64{impl.EdMaybe, impl.EdSure}},
		{"list(%)", "*", []int64{impl.EdList, impl.EdOne}},
		{"rec(y:num,z:%,x:text)", "z", nil},
		{"list(rec(z:%))", "*z", nil},
		{"rec(z:maybe(rec(z:%)),y:flag)", "z*z", nil},
	}
}

// framed is the edits told where the frame has them.
func (f diffFrame) framed(l []impl.Edit) []impl.Edit {
	out := editsCopied(l)
	for i := range out {
		if len(out) > 1 || len(out[i].Path) > 0 || !slices.Contains(f.whole, out[i].Kind) {
			out[i].Path = slices.Concat(path(f.steps), out[i].Path)
		}
	}
	return out
}

// fitsIn tells whether both are right there, too.
func (f diffFrame) fitsIn(shapes ...string) bool {
	for _, s := range shapes {
		if impl.ShapeRead(put(f.s, s)).Code != impl.OK {
			return false
		}
	}
	return true
}

// leavesOf is all that has no Shapes in a shape, to be changed where it stands.
func leavesOf(s *impl.Shape) []*impl.Shape {
	if len(s.Shapes) == 0 {
		return []*impl.Shape{s}
	}
	out := []*impl.Shape{}
	for i := range s.Shapes {
		out = append(out, leavesOf(&s.Shapes[i])...)
	}
	return out
}

// turnedIn is the widest shape, but with that many of its numbers turned to texts.
func turnedIn(count int) impl.Shape {
	s := wide(impl.MaxDeep)
	for _, leaf := range leavesOf(&s)[:count] {
		*leaf = text
	}
	return s
}

// someUnlike is a right shape, and one that is unlike it in a few places, wherever these are, or all along.
func someUnlike(random *rand.Rand) (impl.Shape, impl.Shape) {
	a := someShape(random, 1+random.Intn(impl.MaxDeep))
	if random.Intn(8) == 0 {
		return a, someShape(random, 1+random.Intn(impl.MaxDeep))
	}
	for (impl.NodesOf(a) < 6 || len(written(a)) > 300) && random.Intn(8) > 0 {
		a = someShape(random, impl.MaxDeep)
	}
	b := copied(a)
	for range 1 + random.Intn(4) {
		if len(written(b)) < 400 && random.Intn(2) == 0 {
			_, b = someEdits(random, b, 1)
			continue
		}
		all := placesOf(b)
		one := all[random.Intn(len(all))]
		got := impl.ShapeRead(writtenWith(b, one.path, beside(random, one.part)))
		if got.Code == impl.OK {
			b = got.Shape
		}
	}
	return a, b
}

// selections is whatever can be picked of the words, in any order, none twice.
func selections(words ...string) [][]string {
	out := [][]string{{}}
	for i, word := range words {
		others := slices.Concat(words[:i], words[i+1:])
		for _, behind := range selections(others...) {
			out = append(out, append([]string{word}, behind...))
		}
	}
	return out
}
