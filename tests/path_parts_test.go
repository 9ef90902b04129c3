package tests

import (
	"fmt"
	"math/rand"
	"slices"
	"testing"

	"loop.example/g00848/impl"
)

// path is that many steps, a byte each.
func path(steps string) []string {
	out := []string{}
	for i := range steps {
		out = append(out, steps[i:i+1])
	}
	return out
}

// partCase is a shape, a path in it, and what that leads to: zero where it leads nowhere.
type partCase struct {
	s    impl.Shape
	path string
	part impl.Shape
}

func partAtCases() []partCase {
	nowhere := impl.Shape{}
	inner := recOf("ab", text, num)
	outer := recOf("ab", inner, flag)
	longer := impl.Shape{Kind: impl.ShRec, Names: []string{"aa", "ab", "b"}, Shapes: []impl.Shape{num, flag, text}}
	return []partCase{
		{maybe(num), "*", num},
		{list(text), "*", text},
		{maybe(list(num)), "*", list(num)},
		{maybe(list(num)), "**", num},
		{maybe(list(num)), "***", nowhere},
		{lists(4), "****", num},
		{lists(4), "*****", nowhere},
		{rec(num), "*", nowhere},
		{rec(), "*", nowhere},
		{rec(list(num)), "*", nowhere},
		{flag, "*", nowhere},
		{num, "*", nowhere},
		{text, "*", nowhere},
		{pick("a", "b"), "*", nowhere},
		{rec(num, text), "a", num},
		{rec(num, text), "b", text},
		{rec(num, text), "c", nowhere},
		{rec(num, text, flag, num, num, list(flag)), "f", list(flag)},
		{rec(num, text, flag, num, num, list(flag)), "f*", flag},
		{rec(num, text, flag, num, num, list(flag)), "g", nowhere},
		{rec(num, text), "ab", nowhere},
		{rec(), "a", nowhere},
		{maybe(rec(num)), "a", nowhere},
		{maybe(rec(num)), "*a", num},
		{maybe(rec(num)), "*b", nowhere},
		{maybe(rec(num)), "a*", nowhere},
		{list(rec(num)), "a", nowhere},
		{list(rec(num)), "*a", num},
		{rec(maybe(num)), "a*", num},
		{rec(maybe(num)), "*a", nowhere},
		{flag, "a", nowhere},
		{num, "a", nowhere},
		{text, "a", nowhere},
		{pick("a", "b"), "a", nowhere},
		{rec(pick("a", "b")), "ab", nowhere},
		{rec(pick("a", "b")), "a", pick("a", "b")},
		{outer, "a", inner},
		{outer, "aa", text},
		{outer, "ab", num},
		{outer, "b", flag},
		{outer, "aaa", nowhere},
		{outer, "ba", nowhere},
		{recOf("b", inner), "bb", num},
		{recOf("b", inner), "a", nowhere},
		{recOf("ba", num, list(recOf("ab", flag, text))), "a*a", flag},
		{recOf("ba", num, list(recOf("ab", flag, text))), "a*b", text},
		{recOf("ba", num, list(recOf("ab", flag, text))), "aa", nowhere},
		{longer, "a", nowhere},
		{longer, "b", text},
		{rec(rec(rec(rec(pick("a"))))), "aaaa", pick("a")},
		{rec(rec(rec(rec(pick("a"))))), "aaaaa", nowhere},
		{rec(rec(rec(rec(rec())))), "aaaa", rec()},
		{rec(rec(rec(rec(rec())))), "aaaa*", nowhere},
		{wide(5), "fedc", num},
		{wide(5), "fed", wide(2)},
		{wide(5), "fedg", nowhere},
		{wide(5), "fedca", nowhere},
	}
}

func TestPartAt(t *testing.T) {
	for _, c := range partAtCases() {
		p := path(c.path)
		what := fmt.Sprintf("%q in %s", p, written(c.s))
		want := impl.PartOut{Shape: c.part}
		if c.part.Kind == 0 {
			want.Code = impl.ErrNone
		}
		samePartOut(t, what, impl.PartAt(c.s, p), want)
		found := leadsAsBeside(t, c.s, p, pick("z"))
		same(t, what, found, c.part.Kind != 0)
	}
}

func TestNoStep(t *testing.T) {
	for _, c := range kinds() {
		for _, p := range [][]string{nil, {}} {
			samePartOut(t, c.what, impl.PartAt(c.shape, p), impl.PartOut{Shape: c.shape})
			for _, other := range kinds() {
				sameShapeOut(t, c.what+" by "+other.what, impl.Swap(c.shape, p, other.shape), impl.ShapeOut{Shape: other.shape})
			}
		}
	}
	sameShapeOut(t, "as deep as may be", impl.Swap(num, nil, lists(4)), impl.ShapeOut{Shape: lists(4)})
	sameShapeOut(t, "as wide as may be", impl.Swap(lists(4), nil, wide(5)), impl.ShapeOut{Shape: wide(5)})
}

func TestSwap(t *testing.T) {
	for _, c := range []struct {
		s    string
		path string
		part string
		want string
	}{
		{"maybe(num)", "/*", "text", "maybe(text)"},
		{"list(num)", "/*", "list(num)", "list(list(num))"},
		{"list(list(num))", "/*", "num", "list(num)"},
		{"list(list(num))", "/*/*", "flag", "list(list(flag))"},
		{"rec(a:num)", "/a", "rec()", "rec(a:rec())"},
		{"rec(a:num,b:num,c:num)", "/a", "text", "rec(a:text,b:num,c:num)"},
		{"rec(a:num,b:num,c:num)", "/b", "text", "rec(a:num,b:text,c:num)"},
		{"rec(a:num,b:num,c:num)", "/c", "text", "rec(a:num,b:num,c:text)"},
		{"rec(c:num,b:num,a:num)", "/a", "pick(b,a)", "rec(c:num,b:num,a:pick(b,a))"},
		{"rec(a:rec(a:num,b:num),b:num)", "/b", "text", "rec(a:rec(a:num,b:num),b:text)"},
		{"rec(a:rec(a:num,b:num),b:num)", "/a/b", "text", "rec(a:rec(a:num,b:text),b:num)"},
		{"rec(a:rec(a:num,b:num),b:num)", "/a/a", "rec(a:flag)", "rec(a:rec(a:rec(a:flag),b:num),b:num)"},
		{"rec(a:rec(a:num,b:num),b:num)", "/a", "flag", "rec(a:flag,b:num)"},
		{"rec(a:maybe(list(rec(b:num,c:pick(x,y)))))", "/a/*/*/c", "pick(y,x)", "rec(a:maybe(list(rec(b:num,c:pick(y,x)))))"},
		{"rec(a:maybe(list(rec(b:num,c:pick(x,y)))))", "/a", "maybe(list(rec()))", "rec(a:maybe(list(rec())))"},
		{"list(list(list(list(num))))", "/*/*/*/*", "rec()", "list(list(list(list(rec()))))"},
		{"list(list(list(list(num))))", "/*/*/*", "rec(b:num)", "list(list(list(rec(b:num))))"},
		{"list(list(list(list(num))))", "/*", "flag", "list(flag)"},
	} {
		s, part := impl.ShapeRead(c.s).Shape, impl.ShapeRead(c.part).Shape
		what := c.path + " of " + c.s
		got := impl.Swap(s, impl.PathRead(c.path), part)
		same(t, what, got.Code, impl.OK)
		same(t, what, written(got.Shape), c.want)
	}
}

// TestSwapTooDeep: a part as deep as there is room for, and one deeper.
func TestSwapTooDeep(t *testing.T) {
	around := []struct {
		what string
		s    impl.Shape
		path string
	}{
		{"a list", list(num), "*"},
		{"a maybe", maybe(num), "*"},
		{"a record", rec(flag, num), "b"},
		{"lists", lists(2), "**"},
		{"a record in a list in a maybe", maybe(list(rec(num))), "**a"},
		{"lists of any depth", lists(4), "****"},
		{"lists, half of them gone", lists(4), "**"},
		{"records beside", wide(5), "aaa"},
	}
	for _, c := range around {
		p := path(c.path)
		room := impl.MaxDeep - len(p)
		fits := lists(room - 1)
		sameShapeOut(t, c.what, impl.Swap(c.s, p, lists(room)), impl.ShapeOut{Code: impl.ErrFull})
		sameShapeOut(t, c.what+", records", impl.Swap(c.s, p, wide(room+1)), impl.ShapeOut{Code: impl.ErrFull})
		sameShapeOut(t, c.what+", deep in its last field", impl.Swap(c.s, p, rec(num, lists(room-1))), impl.ShapeOut{Code: impl.ErrFull})
		got := impl.Swap(c.s, p, fits)
		same(t, c.what+", as deep as may be", got.Code, impl.OK)
		same(t, c.what+", as deep as may be", written(got.Shape), writtenWith(c.s, p, fits))
		sameShapeOut(t, c.what+", there again", impl.Swap(got.Shape, p, fits), impl.ShapeOut{Shape: got.Shape})
	}
}

func TestPathsOf(t *testing.T) {
	for _, c := range []struct {
		text string
		want [][]string
	}{
		{"flag", [][]string{{}}},
		{"num", [][]string{{}}},
		{"text", [][]string{{}}},
		{"pick(a,b)", [][]string{{}}},
		{"rec()", [][]string{{}}},
		{"maybe(num)", [][]string{{}, {"*"}}},
		{"list(pick(a))", [][]string{{}, {"*"}}},
		{"list(maybe(num))", [][]string{{}, {"*"}, {"*", "*"}}},
		{"rec(a:num)", [][]string{{}, {"a"}}},
		{"rec(b:num,a:text)", [][]string{{}, {"b"}, {"a"}}},
		{"rec(b:list(num),a:maybe(rec()))", [][]string{{}, {"b"}, {"b", "*"}, {"a"}, {"a", "*"}}},
		{"rec(a:rec(a:num,b:num),b:num)", [][]string{{}, {"a"}, {"a", "a"}, {"a", "b"}, {"b"}}},
		{"rec(b:num,a:rec(b:rec(c:flag),a:num),c:flag)", [][]string{{}, {"b"}, {"a"}, {"a", "b"}, {"a", "b", "c"}, {"a", "a"}, {"c"}}},
		{"list(rec(b:num,a:list(num)))", [][]string{{}, {"*"}, {"*", "b"}, {"*", "a"}, {"*", "a", "*"}}},
		{"rec(abcdefgh:maybe(maybe(maybe(num))),b:num)", [][]string{{}, {"abcdefgh"}, {"abcdefgh", "*"}, {"abcdefgh", "*", "*"}, {"abcdefgh", "*", "*", "*"}, {"b"}}},
		{"list(list(list(list(num))))", [][]string{{}, {"*"}, {"*", "*"}, {"*", "*", "*"}, {"*", "*", "*", "*"}}},
		{"rec(a:rec(a:rec(a:rec(a:rec()))))", [][]string{{}, {"a"}, {"a", "a"}, {"a", "a", "a"}, {"a", "a", "a", "a"}}},
	} {
		samePaths(t, c.text, impl.PathsOf(impl.ShapeRead(c.text).Shape), c.want)
	}
}

// pathsInOrder is PathsOf, held against what is told beside the program.
func pathsInOrder(t *testing.T, s impl.Shape) [][]string {
	t.Helper()
	want := [][]string{}
	for _, one := range placesOf(s) {
		want = append(want, one.path)
	}
	got := impl.PathsOf(s)
	if !slices.EqualFunc(got, want, slices.Equal) {
		t.Fatalf("PathsOf %s: got %s, want %s", written(s), shown(got), shown(want))
	}
	return got
}

// eachPathLeads is promise 7 of one shape.
func eachPathLeads(t *testing.T, s impl.Shape) {
	t.Helper()
	what := written(s)
	paths := pathsInOrder(t, s)
	same(t, "as many as there are: "+what, len(paths), int(impl.NodesOf(s)))
	met := map[string]bool{}
	for i, one := range placesOf(s) {
		p := paths[i]
		same(t, "is right: "+what, impl.PathRight(p), true)
		same(t, "no two alike: "+what, met[impl.PathText(p)], false)
		met[impl.PathText(p)] = true
		part := impl.PartAt(s, p)
		samePartOut(t, "leads there: "+what, part, impl.PartOut{Shape: one.part})
		again := impl.Swap(s, p, part.Shape)
		sameShapeOut(t, "there again: "+what, again, impl.ShapeOut{Shape: s})
		same(t, "turns nothing: "+what, impl.ShapeSame(again.Shape, s), true)
	}
}

func TestEachPathLeads(t *testing.T) {
	random := rand.New(rand.NewSource(31))
	for _, s := range append(smallShapes(), flag, text, lists(4), wide(4), sized(5000), rec(rec(rec(rec(rec()))))) {
		eachPathLeads(t, s)
	}
	for range 400 {
		s := someShape(random, 1+random.Intn(impl.MaxDeep))
		if impl.NodesOf(s) < 300 {
			eachPathLeads(t, s)
		}
	}
}

func TestAllPathsOfTheWidest(t *testing.T) {
	all := wide(impl.MaxDeep)
	paths := pathsInOrder(t, all)
	same(t, "as many as can be", len(paths), 1555)
	for _, i := range []int{0, 1, 777, 1554} {
		leadsAsBeside(t, all, paths[i], flag)
	}
}

// TestSmallPaths follows whatever steps can be put together of a few, also where they lead nowhere.
func TestSmallPaths(t *testing.T) {
	paths := append(putTogether([]string{"a", "b", "*", "z"}, 3), "", "****", "aaaa", "a*a*", "*****", "aaaaa", "zzzzz")
	found := 0
	for _, s := range smallShapes() {
		for _, steps := range paths {
			if leadsAsBeside(t, s, path(steps), rec(num, pick("b", "a"))) {
				found++
			}
		}
	}
	same(t, "enough lead somewhere", found > 300, true)
}

func TestSomePaths(t *testing.T) {
	random := rand.New(rand.NewSource(32))
	const rounds = 3000
	found, full := 0, 0
	for range rounds {
		s := rec(someShape(random, impl.MaxDeep-1), maybe(someShape(random, impl.MaxDeep-2)))
		p := somePath(random, s)
		part := someShape(random, 1+random.Intn(impl.MaxDeep))
		if random.Intn(3) == 0 {
			part = lists(random.Intn(impl.MaxDeep))
		}
		if !leadsAsBeside(t, s, p, part) {
			continue
		}
		found++
		if len(p)+int(impl.DeepOf(part)) > impl.MaxDeep {
			full++
		}
	}
	same(t, "enough lead somewhere", found > rounds/3, true)
	same(t, "enough lead nowhere", found < rounds*9/10, true)
	same(t, "enough are too deep", full > rounds/20, true)
}
