package tests

import (
	"math"
	"math/rand"
	"reflect"
	"testing"

	"loop.example/g00848/impl"
)

type fitCase struct {
	what  string
	shape impl.Shape
	val   impl.Val
	fits  bool
}

func leafCases() []fitCase {
	two := pick("red", "green")
	return []fitCase{
		{"no", flag, flagVal(0), true},
		{"yes", flag, flagVal(1), true},
		{"a flag of 2", flag, flagVal(2), false},
		{"a flag of -1", flag, flagVal(-1), false},
		{"a flag of 1 beyond 32 bits", flag, flagVal(1<<32 + 1), false},
		{"0", num, numVal(0), true},
		{"1", num, numVal(1), true},
		{"one less than MaxTime", num, numVal(impl.MaxTime - 1), true},
		{"MaxTime", num, numVal(impl.MaxTime), true},
		{"one more than MaxTime", num, numVal(impl.MaxTime + 1), false},
		{"-1", num, numVal(-1), false},
		{"the least number", num, numVal(math.MinInt64), false},
		{"the greatest number", num, numVal(math.MaxInt64), false},
		{"7 beyond 32 bits", num, numVal(1<<32 + 7), false},
		{"an empty text", text, textVal(""), true},
		{"19 bytes", text, textVal(filledText(19)), true},
		{"20 bytes", text, textVal(filledText(20)), true},
		{"21 bytes", text, textVal(filledText(21)), false},
		{"ten runes of 20 bytes", text, textVal(times("ä", 10)), false},
		{"20 blanks", text, textVal(times(" ", 20)), true},
		{"21 blanks", text, textVal(times(" ", 21)), false},
		{"a text of MaxBytes and one", text, textVal(times("a", impl.MaxBytes+1)), false},
		{"the first sym", two, pickVal("red"), true},
		{"the last sym", two, pickVal("green"), true},
		{"no sym", two, pickVal(""), false},
		{"another sym", two, pickVal("blue"), false},
		{"a part of a sym", two, pickVal("re"), false},
		{"a sym and more", two, pickVal("redd"), false},
		{"both syms", two, pickVal("red,green"), false},
		{"a great sym", two, pickVal("RED"), false},
		{"the last of six syms", pick("a", "b", "c", "d", "e", "f"), pickVal("f"), true},
		{"the kind's word", two, pickVal("pick"), false},
	}
}

func partCases() []fitCase {
	two := rec(num, text)
	return []fitCase{
		{"a maybe of none", maybe(num), maybeVal(), true},
		{"a maybe of one", maybe(num), maybeVal(numVal(5)), true},
		{"a maybe of two", maybe(num), maybeVal(numVal(5), numVal(5)), false},
		{"a maybe of what does not fit", maybe(num), maybeVal(numVal(-1)), false},
		{"a maybe of another kind", maybe(num), maybeVal(textVal("")), false},
		{"a maybe of zero", maybe(num), maybeVal(impl.Val{}), false},
		{"a maybe of a maybe of none", maybe(maybe(num)), maybeVal(maybeVal()), true},
		{"a maybe of a number, one maybe less", maybe(maybe(num)), maybeVal(numVal(5)), false},
		{"a list of none", list(num), listVal(), true},
		{"a list of one", list(num), listVal(numVal(5)), true},
		{"a list of 5", list(num), listVal(many(numVal(5), 5)...), true},
		{"a list of 6", list(num), listVal(many(numVal(5), 6)...), true},
		{"a list of 7", list(num), listVal(many(numVal(5), 7)...), false},
		{"a list of MaxList and one", list(num), listVal(many(numVal(5), impl.MaxList+1)...), false},
		{"a list, the first does not fit", list(num), listVal(numVal(-1), numVal(5)), false},
		{"a list, the last does not fit", list(num), listVal(append(many(numVal(5), 5), numVal(-1))...), false},
		{"a list in a list of 6", list(list(num)), listVal(listVal(many(numVal(5), 6)...)), true},
		{"a list in a list of 7", list(list(num)), listVal(listVal(many(numVal(5), 7)...)), false},
		{"a record of none", rec(), recVal(), true},
		{"a record of one too many", rec(), recVal(numVal(0)), false},
		{"a record of two", two, recVal(numVal(5), textVal("a")), true},
		{"a record of none of two", two, recVal(), false},
		{"a record of one of two", two, recVal(numVal(5)), false},
		{"a record of three of two", two, recVal(numVal(5), textVal("a"), textVal("a")), false},
		{"a record the other way round", two, recVal(textVal("a"), numVal(5)), false},
		{"a record, the first does not fit", two, recVal(numVal(-1), textVal("a")), false},
		{"a record, the last does not fit", two, recVal(numVal(5), textVal("\"")), false},
		{"a record of a zero field", two, recVal(numVal(5), impl.Val{}), false},
		{"a record of six", rec(num, num, num, num, num, num), recVal(many(numVal(5), 6)...), true},
		{"a record of seven of six", rec(num, num, num, num, num, num), recVal(many(numVal(5), 7)...), false},
		{"a record of five of six", rec(num, num, num, num, num, num), recVal(many(numVal(5), 5)...), false},
		{"as deep as can be", lists(4), valLists(4), true},
		{"one list less", lists(4), valLists(3), false},
		{"one list more", lists(4), valLists(5), false},
		{"many lists more", lists(4), valLists(100000), false},
		{"a list of itself", lists(4), valRing(impl.ShList), false},
		{"a maybe of itself", maybe(maybe(num)), valRing(impl.ShMaybe), false},
	}
}

// kinds is a right shape of each kind, and what fits it.
func kinds() []fitCase {
	return []fitCase{
		{"flag", flag, flagVal(0), true},
		{"num", num, numVal(0), true},
		{"text", text, textVal(""), true},
		{"pick", pick("a"), pickVal("a"), true},
		{"maybe", maybe(num), maybeVal(), true},
		{"maybe of one", maybe(num), maybeVal(numVal(0)), true},
		{"list", list(num), listVal(), true},
		{"list of one", list(num), listVal(numVal(0)), true},
		{"rec", rec(), recVal(), true},
		{"rec of one", rec(num), recVal(numVal(0)), true},
	}
}

// strayCases have a field that should be zero, and is not, or are of another kind.
func strayCases() []fitCase {
	out := []fitCase{}
	for _, c := range kinds() {
		if c.shape.Kind > impl.ShNum {
			v := valCopied(c.val)
			v.N = 1
			out = append(out, fitCase{c.what + " with an N", c.shape, v, false})
			v.N = -1
			out = append(out, fitCase{c.what + " with an N below 0", c.shape, v, false})
		}
		if c.shape.Kind != impl.ShText && c.shape.Kind != impl.ShPick {
			v := valCopied(c.val)
			v.T = "a"
			out = append(out, fitCase{c.what + " with a T", c.shape, v, false})
		}
		if c.shape.Kind < impl.ShMaybe {
			v := valCopied(c.val)
			v.Items = []impl.Val{c.val}
			out = append(out, fitCase{c.what + " with an Item", c.shape, v, false})
			v.Items = []impl.Val{{}}
			out = append(out, fitCase{c.what + " with a zero Item", c.shape, v, false})
		}
		for kind := int64(-1); kind <= 8; kind++ {
			v := valCopied(c.val)
			v.Kind = kind
			out = append(out, fitCase{c.what + " as kind " + letter(int(kind)), c.shape, v, kind == c.shape.Kind})
		}
		v := valCopied(c.val)
		v.Kind += 1 << 32
		out = append(out, fitCase{c.what + " beyond 32 bits", c.shape, v, false})
		out = append(out, fitCase{c.what + " of zero", c.shape, impl.Val{}, false})
	}
	return out
}

// fitsAsSaid asks of it alone, and of it within others.
func fitsAsSaid(t *testing.T, c fitCase) {
	t.Helper()
	same(t, c.what, impl.Fits(c.shape, c.val), c.fits)
	same(t, c.what+": has a text", impl.ValText(c.shape, c.val) != "", c.fits)
	if impl.DeepOf(c.shape) == impl.MaxDeep {
		return
	}
	same(t, "in a maybe: "+c.what, impl.Fits(maybe(c.shape), maybeVal(c.val)), c.fits)
	same(t, "in a list: "+c.what, impl.Fits(list(c.shape), listVal(c.val)), c.fits)
	same(t, "last in a record: "+c.what, impl.Fits(rec(num, c.shape), recVal(numVal(0), c.val)), c.fits)
	same(t, "first in a record: "+c.what, impl.Fits(rec(c.shape, num), recVal(c.val, numVal(0))), c.fits)
}

func TestFits(t *testing.T) {
	for _, cases := range [][]fitCase{leafCases(), partCases(), kinds(), strayCases()} {
		for _, c := range cases {
			fitsAsSaid(t, c)
		}
	}
}

func TestFitsBytes(t *testing.T) {
	for b := range 256 {
		plain := b >= 32 && b <= 126 && b != '"'
		one := string([]byte{byte(b)})
		for _, t1 := range []string{one, "ab" + one, one + "ab", times("a", 19) + one} {
			fitsAsSaid(t, fitCase{shown(t1), text, textVal(t1), plain})
		}
	}
}

// A kind fits no other kind, whatever it has.
func TestFitsOfOtherKinds(t *testing.T) {
	for _, a := range kinds() {
		for _, b := range kinds() {
			if a.shape.Kind != b.shape.Kind {
				fitsAsSaid(t, fitCase{a.what + " by " + b.what, b.shape, a.val, false})
			}
		}
	}
}

// TestFitsBesideAnother changes what fits in one place, and asks another one whether it still does.
func TestFitsBesideAnother(t *testing.T) {
	r := rand.New(rand.NewSource(6))
	kept := 0
	for range 3000 {
		s := someShape(r, 1+r.Intn(impl.MaxDeep))
		v := someVal(r, s)
		fitsAsSaid(t, fitCase{"unturned", s, v, true})
		all := valsOf(&v)
		turn(r, all[r.Intn(len(all))])
		if fitting(s, v) {
			kept++
		}
		same(t, shown(v)+" by "+written(s), impl.Fits(s, v), fitting(s, v))
	}
	same(t, "enough fit, and enough do not", kept > 300 && kept < 2700, true)
}

func turn(r *rand.Rand, v *impl.Val) {
	switch r.Intn(7) {
	case 0:
		v.Kind = int64(r.Intn(9))
	case 1:
		v.N = []int64{-1, 0, 1, 2, impl.MaxTime, impl.MaxTime + 1}[r.Intn(6)]
	case 2:
		v.T = []string{"", "a", "z", "\x1f", "\x7f", filledText(20), filledText(21)}[r.Intn(7)]
	case 3:
		v.Items = nil
	case 4:
		v.Items = append(v.Items, impl.Val{Kind: int64(1 + r.Intn(7))})
	case 5:
		v.Items = append(v.Items, v.Items...)
	case 6:
		if len(v.Items) > 0 {
			v.Items = v.Items[1:]
		}
	}
}

func TestWrongShapesFitNothing(t *testing.T) {
	one := []impl.Val{numVal(0)}
	for what, s := range wrongShapes() {
		vals := []impl.Val{{}, valRing(s.Kind), valLists(5), valLists(1000)}
		for _, items := range [][]impl.Val{nil, one, many(numVal(0), 2), many(numVal(0), 7), {impl.Val{}}} {
			vals = append(vals, impl.Val{Kind: s.Kind, Items: items}, impl.Val{Kind: s.Kind, T: "a", Items: items})
		}
		for _, v := range vals {
			same(t, what, impl.Fits(s, v), false)
			same(t, "in a list: "+what, impl.Fits(list(s), listVal(v)), false)
			same(t, "none of it in a list: "+what, impl.Fits(list(s), listVal()), false)
			same(t, "none of it in a maybe: "+what, impl.Fits(maybe(s), maybeVal()), false)
			same(t, what, impl.ValText(s, v), "")
		}
		for where, s := range map[string]impl.Shape{"": s, "in a list: ": list(s), "in a maybe: ": maybe(s), "in a record: ": rec(num, s)} {
			sameVal(t, where+what, impl.Blank(s), impl.Val{})
			same(t, "zero by "+where+what, impl.Fits(s, impl.Val{}), false)
		}
	}
}

func TestBlank(t *testing.T) {
	for _, c := range []struct {
		shape impl.Shape
		want  impl.Val
	}{
		{flag, flagVal(0)},
		{num, numVal(0)},
		{text, textVal("")},
		{pick("red"), pickVal("red")},
		{pick("red", "green"), pickVal("red")},
		{pick("z", "a"), pickVal("z")},
		{maybe(num), maybeVal()},
		{maybe(pick("a")), maybeVal()},
		{list(num), listVal()},
		{list(rec(num)), listVal()},
		{rec(), recVal()},
		{rec(num, text), recVal(numVal(0), textVal(""))},
		{rec(pick("b", "a"), rec(flag, list(num)), maybe(text)), recVal(pickVal("b"), recVal(flagVal(0), listVal()), maybeVal())},
		{rec(rec(rec(rec(pick("a"))))), recVal(recVal(recVal(recVal(pickVal("a")))))},
		{lists(4), listVal()},
	} {
		sameVal(t, written(c.shape), impl.Blank(c.shape), c.want)
	}
}

// TestBlankFits: promise 4, its second half.
func TestBlankFits(t *testing.T) {
	r := rand.New(rand.NewSource(7))
	shapes := []impl.Shape{wide(impl.MaxDeep), sized(impl.MaxBytes), sized(impl.MaxBytes + 1), rec(rec(rec(rec(rec()))))}
	for range 2000 {
		shapes = append(shapes, someShape(r, impl.MaxDeep))
	}
	for _, s := range shapes {
		blank := impl.Blank(s)
		same(t, written(s), impl.Fits(s, blank), true)
		same(t, written(s), fitting(s, blank), true)
		apartAll(t, valStretches(blank, "Blank"))
		for _, v := range valsOf(&blank) {
			for _, word := range wordsOf(s)[:min(20, len(wordsOf(s)))] {
				apart(t, "Blank", v.T, word)
			}
		}
	}
}

func TestValSame(t *testing.T) {
	vals := []impl.Val{
		{}, {N: 1}, {N: -1}, {T: "a"}, {Kind: -1}, {Kind: math.MaxInt64}, {Items: []impl.Val{{}}}, {Items: []impl.Val{{}, {}}}, {Items: []impl.Val{{N: 1}}},
		flagVal(0), flagVal(1), numVal(0), numVal(1), numVal(1 << 32), textVal(""), textVal("a"), textVal("A"), textVal("a "), textVal("a\x00"), pickVal("a"),
		maybeVal(), maybeVal(numVal(0)), maybeVal(numVal(1)), maybeVal(maybeVal()), listVal(), listVal(numVal(0)), listVal(numVal(0), numVal(0)),
		listVal(numVal(0), numVal(1)), listVal(numVal(1), numVal(0)), listVal(listVal(), listVal()), listVal(listVal(listVal())), recVal(), recVal(numVal(0)), recVal(recVal(), numVal(0)),
		{Kind: impl.ShNum, N: 1, T: "a"}, {Kind: impl.ShNum, T: "a"}, {Kind: impl.ShList, N: 1, T: "a", Items: []impl.Val{numVal(0)}},
		textVal(times("a", impl.MaxBytes+1)), textVal(times("a", impl.MaxBytes) + "b"), listVal(many(numVal(0), impl.MaxList+1)...), listVal(append(many(numVal(0), impl.MaxList), numVal(1))...),
		valLists(4), valLists(5), sizedVal(impl.MaxBytes), sizedVal(impl.MaxBytes + 1),
	}
	for i, a := range vals {
		for j, b := range vals {
			if impl.ValSame(a, valCopied(b)) != (i == j) {
				t.Errorf("%s beside %s: not %t", shown(a), shown(b), i == j)
			}
		}
	}
	same(t, "none, and empty ones", impl.ValSame(listVal(recVal()), listVal(impl.Val{Kind: impl.ShRec, Items: []impl.Val{}})), true)
}

// TestValSameEnds: of what stands within itself, of what is deep, and of what is much only by standing in many places.
func TestValSameEnds(t *testing.T) {
	same(t, "lists of themselves", impl.ValSame(valRing(impl.ShList), valRing(impl.ShList)), true)
	same(t, "a list of itself, and a maybe of itself", impl.ValSame(valRing(impl.ShList), valRing(impl.ShMaybe)), false)
	same(t, "a list of itself, and one of a maybe", impl.ValSame(valRing(impl.ShList), listVal(listVal(valRing(impl.ShMaybe)))), false)
	same(t, "a list of itself, and lists", impl.ValSame(valRing(impl.ShList), valLists(1000)), false)
	same(t, "deep ones", impl.ValSame(valLists(100000), valLists(100000)), true)
	same(t, "deep ones, one deeper", impl.ValSame(valLists(100000), valLists(100001)), false)
	a, b, c := numVal(0), numVal(0), numVal(1)
	for range 60 {
		a, b, c = recVal(a, a), recVal(b, b), recVal(c, c)
	}
	same(t, "many places", impl.ValSame(a, b), true)
	same(t, "many places, one unlike", impl.ValSame(a, c), false)
	shared := listVal(numVal(0))
	for what, other := range map[string]impl.Val{"first": recVal(listVal(numVal(1)), listVal(numVal(0))), "last": recVal(listVal(numVal(0)), listVal(numVal(1)))} {
		same(t, "one in two places, and another one "+what, impl.ValSame(recVal(shared, shared), other), false)
		same(t, "the other way round, "+what, impl.ValSame(other, recVal(shared, shared)), false)
	}
}

func TestValsAreNotChanged(t *testing.T) {
	r := rand.New(rand.NewSource(8))
	for range 300 {
		s := someShape(r, impl.MaxDeep)
		v := someVal(r, s)
		shapeBefore, valBefore := copied(s), valCopied(v)
		impl.Fits(s, v)
		impl.Fits(list(s), listVal(v))
		impl.Blank(s)
		impl.ValSame(v, v)
		impl.ValSame(v, impl.Blank(s))
		impl.ValRead(s, impl.ValText(s, v))
		impl.ValRead(s, "(")
		same(t, "the shape as it was", alike(s, shapeBefore), true)
		same(t, "the Val as it was", valAlike(v, valBefore), true)
	}
}

// TestNothingIsPutBehindVals: a list that is handed in may have room behind its end, which is not the program's.
func TestNothingIsPutBehindVals(t *testing.T) {
	syms := []string{"a", "b", "behind"}
	shapes := []impl.Shape{pick(syms[:2]...), num, text}
	items := []impl.Val{pickVal("b"), numVal(1), textVal("behind")}
	s := impl.Shape{Kind: impl.ShRec, Names: []string{"a", "b"}, Shapes: shapes[:2]}
	v := recVal(items[:2]...)
	same(t, "Fits", impl.Fits(s, v), true)
	same(t, "ValText", impl.ValText(s, v), "(b,1)")
	same(t, "ValSame", impl.ValSame(v, valCopied(v)), true)
	sameVal(t, "Blank", impl.Blank(s), recVal(pickVal("a"), numVal(0)))
	sameValOut(t, "ValRead", impl.ValRead(s, "(b,1)"), impl.ValOut{Val: v})
	same(t, "syms", syms[2], "behind")
	same(t, "shapes", reflect.DeepEqual(shapes[2], text), true)
	sameVal(t, "items", items[2], textVal("behind"))
}
