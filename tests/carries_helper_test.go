package tests

import (
	"math/rand"
	"slices"
	"strings"
	"testing"

	"loop.example/g00848/impl"
)

// carriedBy is what becomes of what fits, told beside the program, rule by rule; olds are what stood there, or none.
func carriedBy(s impl.Shape, e impl.Edit, v impl.Val, olds ...impl.Val) impl.Val {
	if len(e.Path) == 0 {
		return partCarriedBy(s, e, v, olds...)
	}
	out := valCopied(v)
	further := editCopied(e)
	further.Path = e.Path[1:]
	for i, item := range v.Items {
		step := "*"
		if s.Kind == impl.ShRec {
			step = s.Names[i]
		}
		if step != e.Path[0] {
			continue
		}
		itemOlds := []impl.Val{}
		for _, old := range olds {
			if i < len(old.Items) {
				itemOlds = append(itemOlds, old.Items[i])
			}
		}
		out.Items[i] = carriedBy(s.Shapes[i%len(s.Shapes)], further, item, itemOlds...)
	}
	return out
}

// partCarriedBy takes what the Path leads to.
func partCarriedBy(s impl.Shape, e impl.Edit, v impl.Val, olds ...impl.Val) impl.Val {
	has := len(olds) > 0
	var old impl.Val
	if has {
		old = olds[0]
	}
	switch e.Kind {
	case impl.EdAdd:
		field := impl.Blank(e.Shape)
		if has {
			field = old.Items[e.At]
		}
		return recVal(slices.Concat(v.Items[:e.At], []impl.Val{field}, v.Items[e.At:])...)
	case impl.EdDrop:
		return recVal(slices.Concat(v.Items[:e.At], v.Items[e.At+1:])...)
	case impl.EdSym:
		if has && old.T == e.Name && v.T == s.Syms[0] {
			return old
		}
	case impl.EdUnsym:
		if v.T == e.Name {
			return pickVal(s.Syms[0])
		}
	case impl.EdMaybe:
		if has && len(old.Items) == 0 && valAlike(v, impl.Blank(s)) {
			return maybeVal()
		}
		return maybeVal(v)
	case impl.EdList:
		first := impl.Blank(s)
		if len(old.Items) > 0 {
			first = old.Items[0]
		}
		if has && valAlike(first, v) {
			return old
		}
		return listVal(v)
	case impl.EdSure, impl.EdOne:
		if len(v.Items) == 0 {
			return impl.Blank(s.Shapes[0])
		}
		return v.Items[0]
	case impl.EdSet:
		if has {
			return old
		}
		return impl.Blank(e.Shape)
	}
	return v
}

// losesBy takes a right edit, and tells beside the program whether it loses.
func losesBy(e impl.Edit) bool {
	return []bool{false, false, true, false, false, true, false, true, false, true, true}[e.Kind]
}

// carriesAs holds Carry, where it tells no fault, against what it should tell, and holds promise 9.
func carriesAs(t *testing.T, s impl.Shape, e impl.Edit, v impl.Val, want impl.Val, olds ...impl.Val) {
	t.Helper()
	changed := edited(t, s, e)
	what := editWritten(e) + " of " + written(s) + ", " + valWritten(s, v)
	old := impl.Val{}
	has := len(olds) > 0
	if has {
		old = olds[0]
		what += ", old " + valWritten(changed, old)
	}
	got := impl.Carry(s, e, v, old, has)
	sameValOut(t, what, got, impl.ValOut{Val: want})
	same(t, what+": fits", fitting(changed, got.Val), true)
	sameValOut(t, what+", carried back", impl.Carry(changed, impl.EditBack(e), got.Val, v, true), impl.ValOut{Val: v})
	sameValOut(t, what+", there again", impl.Carry(s, e, v, got.Val, true), impl.ValOut{Val: want})
	if has {
		return
	}
	// What is not said to be there is not asked for.
	for _, stray := range []impl.Val{v, want, numVal(-1), valRing(impl.ShList), valLists(1000), {Kind: 9, N: -1, T: tooLong, Items: many(v, 7)}} {
		sameValOut(t, what+", a stray old one", impl.Carry(s, e, v, stray, false), impl.ValOut{Val: want})
	}
}

// carriesAsBeside holds Carry of what fits against what is told beside the program.
func carriesAsBeside(t *testing.T, s impl.Shape, e impl.Edit, v impl.Val, olds ...impl.Val) {
	t.Helper()
	carriesAs(t, s, e, v, carriedBy(s, e, v, olds...), olds...)
}

// carryOne is what stands there, what stood there, and what becomes of it, all as texts; old is empty where nothing stood.
type carryOne struct {
	v    string
	old  string
	want string
}

// carryCase is a shape, an edit of it, and what becomes of what has that shape.
type carryCase struct {
	s    string
	e    impl.Edit
	ones []carryOne
}

// carryFrame is a text of a shape, and texts of what fits it, each with a % for what is put there.
type carryFrame struct {
	s     string
	steps string
	v     string
	old   string
	// without is old ones in which nothing stands there.
	without []string
}

func carryFrames() []carryFrame {
	return []carryFrame{
		{"%", "", "%", "%", nil},
		{"maybe(%)", "*", "some(%)", "some(%)", []string{"none"}},
		{"list(%)", "*", "[%]", "[%]", []string{"[]"}},
		{"rec(y:num,z:%,x:text)", "z", `(1,%,"in")`, `(2,%,"out")`, nil},
		{"rec(z:list(rec(z:%)),y:flag)", "z*z", "([(%)],yes)", "([(%)],no)", []string{"([],no)"}},
	}
}

// put is something in the place of the %.
func put(text string, inner string) string {
	return strings.ReplaceAll(text, "%", inner)
}

// readShape and those below end the test where there is nothing to go on with.
func readShape(t *testing.T, text string) impl.Shape {
	t.Helper()
	got := impl.ShapeRead(text)
	if got.Code != impl.OK {
		t.Fatalf("%s is no shape", text)
	}
	return got.Shape
}

func readVal(t *testing.T, s impl.Shape, text string) impl.Val {
	t.Helper()
	got := impl.ValRead(s, text)
	if got.Code != impl.OK {
		t.Fatalf("%s does not fit %s", text, written(s))
	}
	return got.Val
}

func edited(t *testing.T, s impl.Shape, e impl.Edit) impl.Shape {
	t.Helper()
	got := impl.EditApply(s, e)
	if got.Code != impl.OK {
		t.Fatalf("%s of %s: %d", editWritten(e), written(s), got.Code)
	}
	return got.Shape
}

// carriesAsSaid asks of the shape alone, and of it within others, where it is not too deep for that.
func carriesAsSaid(t *testing.T, c carryCase) {
	t.Helper()
	alone := readShape(t, c.s)
	deep := max(impl.DeepOf(alone), impl.DeepOf(edited(t, alone, c.e)))
	for _, frame := range carryFrames() {
		if impl.DeepOf(readShape(t, put(frame.s, "num")))-1+deep > impl.MaxDeep {
			continue
		}
		s, e := readShape(t, put(frame.s, c.s)), editCopied(c.e)
		e.Path = slices.Concat(path(frame.steps), e.Path)
		changed := edited(t, s, e)
		for _, one := range c.ones {
			v := readVal(t, s, put(frame.v, one.v))
			want := readVal(t, changed, put(frame.v, one.want))
			olds := [][]impl.Val{{}}
			for _, without := range frame.without {
				olds = append(olds, []impl.Val{readVal(t, changed, without)})
			}
			if one.old != "" {
				olds = [][]impl.Val{{readVal(t, changed, put(frame.old, one.old))}}
			}
			for _, old := range olds {
				carriesAs(t, s, e, v, want, old...)
				carriesAsBeside(t, s, e, v, old...)
			}
		}
	}
}

// fewVals is some that fit a small shape, the Blank first.
func fewVals(s impl.Shape) []impl.Val {
	out := []impl.Val{impl.Blank(s)}
	switch s.Kind {
	case impl.ShFlag:
		out = append(out, flagVal(1))
	case impl.ShNum:
		out = append(out, numVal(1))
	case impl.ShText:
		out = append(out, textVal("a"))
	case impl.ShPick:
		for _, sym := range s.Syms[1:] {
			out = append(out, pickVal(sym))
		}
	case impl.ShMaybe:
		for _, one := range fewVals(s.Shapes[0]) {
			out = append(out, maybeVal(one))
		}
	case impl.ShList:
		few := fewVals(s.Shapes[0])
		for _, one := range few[:min(len(few), 2)] {
			out = append(out, listVal(one), listVal(one, few[0]), listVal(one, few[len(few)-1]))
		}
	case impl.ShRec:
		for i, part := range s.Shapes {
			for _, one := range fewVals(part)[1:] {
				v := impl.Blank(s)
				v.Items[i] = one
				out = append(out, v)
			}
		}
	}
	return out
}

// likelyVal is any that fits a right shape, with more in it that is Blank, or that there is none of, than in someVal.
func likelyVal(random *rand.Rand, s impl.Shape) impl.Val {
	if random.Intn(3) == 0 {
		return impl.Blank(s)
	}
	v := someVal(random, s)
	if s.Kind == impl.ShList {
		v.Items = v.Items[:min(len(v.Items), random.Intn(4))]
	}
	for i := range v.Items {
		v.Items[i] = likelyVal(random, s.Shapes[i%len(s.Shapes)])
	}
	return v
}

// besideVal is what fits, too, and is unlike that one here and there, or nowhere.
func besideVal(random *rand.Rand, s impl.Shape, v impl.Val) impl.Val {
	if random.Intn(8) == 0 {
		return likelyVal(random, s)
	}
	out := valCopied(v)
	for i, item := range v.Items {
		out.Items[i] = besideVal(random, s.Shapes[i%len(s.Shapes)], item)
	}
	most := map[int64]int{impl.ShMaybe: 1, impl.ShList: 6}[s.Kind]
	switch {
	case most > 0 && len(out.Items) < most && random.Intn(3) == 0:
		out.Items = append(out.Items, likelyVal(random, s.Shapes[0]))
	case most > 0 && len(out.Items) > 0 && random.Intn(3) == 0:
		out.Items = out.Items[:len(out.Items)-1]
	}
	return out
}

// someOlds is what may have stood there: nothing, just what becomes of v, something like that, and anything.
func someOlds(random *rand.Rand, s impl.Shape, e impl.Edit, v impl.Val) [][]impl.Val {
	changed := impl.EditApply(s, e).Shape
	likely := likelyVal(random, changed)
	carried := carriedBy(s, e, v, likely)
	return [][]impl.Val{{}, {likely}, {carried}, {besideVal(random, changed, carried)}, {besideVal(random, changed, carriedBy(s, e, v))}}
}
