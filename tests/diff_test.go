package tests

import (
	"fmt"
	"math/rand"
	"slices"
	"strings"
	"testing"

	"loop.example/g00848/impl"
)

// diffCase is two shapes, and the edits that lie between, as texts.
type diffCase struct {
	a string
	b string
	l string
}

// differsAsSaid asks of both shapes alone, and of both within others, where they are not too deep for that.
func differsAsSaid(t *testing.T, c diffCase) {
	t.Helper()
	texts := slices.DeleteFunc(strings.Split(c.l, "; "), func(text string) bool { return text == "" })
	l := readEdits(t, texts...)
	readShape(t, c.a)
	readShape(t, c.b)
	for _, frame := range diffFrames() {
		if frame.fitsIn(c.a, c.b) {
			differsAs(t, readShape(t, put(frame.s, c.a)), readShape(t, put(frame.s, c.b)), frame.framed(l))
		}
	}
}

func TestDiffOfOnesAndWhatTheyAreOf(t *testing.T) {
	for _, c := range []diffCase{
		{"num", "num", ""},
		{"maybe(num)", "maybe(num)", ""},
		{"num", "maybe(num)", "maybe /"},
		{"maybe(num)", "num", "sure /"},
		{"num", "list(num)", "list /"},
		{"list(num)", "num", "one /"},
		{"pick(x,y)", "maybe(pick(x,y))", "maybe /"},
		{"pick(x,y)", "maybe(pick(y,x))", "set / maybe(pick(y,x)) pick(x,y)"},
		{"rec(a:num,b:text)", "list(rec(a:num,b:text))", "list /"},
		{"list(rec(a:num,b:text))", "rec(a:num,b:text)", "one /"},
		{"list(rec(a:num,b:text))", "rec(b:text,a:num)", "set / rec(b:text,a:num) list(rec(a:num,b:text))"},
		{"rec()", "maybe(rec())", "maybe /"},
		{"maybe(rec())", "rec()", "sure /"},
		// Both are a ShMaybe, or both a ShList; but one being of the other is ahead of that.
		{"maybe(num)", "maybe(text)", "set /* text num"},
		{"list(num)", "list(text)", "set /* text num"},
		{"maybe(num)", "maybe(maybe(num))", "maybe /"},
		{"maybe(maybe(num))", "maybe(num)", "sure /"},
		{"list(num)", "list(list(num))", "list /"},
		{"list(list(num))", "list(num)", "one /"},
		{"maybe(num)", "maybe(list(num))", "list /*"},
		{"maybe(list(num))", "maybe(num)", "one /*"},
		{"list(num)", "list(maybe(num))", "maybe /*"},
		{"list(maybe(num))", "list(num)", "sure /*"},
		{"maybe(num)", "list(maybe(num))", "list /"},
		{"list(maybe(num))", "maybe(num)", "one /"},
		{"list(num)", "maybe(list(num))", "maybe /"},
		{"maybe(list(num))", "list(num)", "sure /"},
		{"maybe(maybe(num))", "maybe(maybe(text))", "set /*/* text num"},
		{"list(maybe(num))", "list(maybe(text))", "set /*/* text num"},
		{"list(list(list(num)))", "list(list(list(text)))", "set /*/*/* text num"},
		{"list(list(num))", "list(list(maybe(num)))", "maybe /*/*"},
		{"list(maybe(num))", "list(maybe(maybe(num)))", "maybe /*"},
		{"maybe(list(list(num)))", "maybe(list(num))", "one /*"},
		{"list(maybe(num))", "list(list(maybe(num)))", "list /"},
		{"list(rec(a:num))", "list(rec(a:maybe(num)))", "maybe /*/a"},
		// One is of the other only if that is the same.
		{"num", "maybe(text)", "set / maybe(text) num"},
		{"maybe(text)", "num", "set / num maybe(text)"},
		{"num", "list(text)", "set / list(text) num"},
		{"list(text)", "num", "set / num list(text)"},
		{"num", "maybe(maybe(num))", "set / maybe(maybe(num)) num"},
		{"maybe(maybe(num))", "num", "set / num maybe(maybe(num))"},
		{"num", "maybe(list(num))", "set / maybe(list(num)) num"},
		{"list(list(num))", "num", "set / num list(list(num))"},
		{"maybe(num)", "list(num)", "set / list(num) maybe(num)"},
		{"list(num)", "maybe(num)", "set / maybe(num) list(num)"},
		{"maybe(list(num))", "list(maybe(num))", "set / list(maybe(num)) maybe(list(num))"},
		{"maybe(num)", "maybe(maybe(text))", "set /* maybe(text) num"},
		{"maybe(num)", "maybe(maybe(maybe(num)))", "set /* maybe(maybe(num)) num"},
		{"list(list(list(num)))", "list(num)", "set /* num list(list(num))"},
		{"rec(a:num)", "maybe(num)", "set / maybe(num) rec(a:num)"},
		{"num", "rec(a:num)", "set / rec(a:num) num"},
		{"pick(x)", "rec(x:num)", "set / rec(x:num) pick(x)"},
		{"rec()", "flag", "set / flag rec()"},
		{"flag", "num", "set / num flag"},
		{"text", "pick(text)", "set / pick(text) text"},
	} {
		differsAsSaid(t, c)
	}
}

func TestDiffOfPicks(t *testing.T) {
	for _, c := range []diffCase{
		{"pick(a)", "pick(a)", ""},
		{"pick(a,b,c)", "pick(a,b,c)", ""},
		// Another first one, whatever else there is.
		{"pick(a)", "pick(b)", "set / pick(b) pick(a)"},
		{"pick(a)", "pick(b,a)", "set / pick(b,a) pick(a)"},
		{"pick(a,b)", "pick(b)", "set / pick(b) pick(a,b)"},
		{"pick(a,b)", "pick(b,a)", "set / pick(b,a) pick(a,b)"},
		{"pick(a,b,c)", "pick(d,b,c)", "set / pick(d,b,c) pick(a,b,c)"},
		// The first one stays, and no other one.
		{"pick(a)", "pick(a,b)", "sym / 1 b"},
		{"pick(a,b)", "pick(a)", "unsym / 1 b"},
		{"pick(a)", "pick(a,b,c,d,e,f)", "sym / 1 b; sym / 2 c; sym / 3 d; sym / 4 e; sym / 5 f"},
		{"pick(a,b,c,d,e,f)", "pick(a)", "unsym / 5 f; unsym / 4 e; unsym / 3 d; unsym / 2 c; unsym / 1 b"},
		{"pick(a,b)", "pick(a,c)", "unsym / 1 b; sym / 1 c"},
		{"pick(a,b,c,d,e,f)", "pick(a,g,h,i,j,k)", "unsym / 5 f; unsym / 4 e; unsym / 3 d; unsym / 2 c; unsym / 1 b; sym / 1 g; sym / 2 h; sym / 3 i; sym / 4 j; sym / 5 k"},
		// Some stay, or all.
		{"pick(a,b,c)", "pick(a,c)", "unsym / 1 b"},
		{"pick(a,c)", "pick(a,b,c)", "sym / 1 b"},
		{"pick(a,b,c)", "pick(a,b)", "unsym / 2 c"},
		{"pick(a,b,c,d,e)", "pick(a,c,e)", "unsym / 3 d; unsym / 1 b"},
		{"pick(a,c,e)", "pick(a,b,c,d,e)", "sym / 1 b; sym / 3 d"},
		{"pick(a,x,b,y,c)", "pick(a,u,b,v,c)", "unsym / 3 y; unsym / 1 x; sym / 1 u; sym / 3 v"},
		{"pick(a,x,b)", "pick(a,b,u,v)", "unsym / 1 x; sym / 2 u; sym / 3 v"},
		// Both have them, in another order: who stands ahead in the first one stays first.
		{"pick(a,b,c)", "pick(a,c,b)", "unsym / 2 c; sym / 1 c"},
		{"pick(a,b,c,d)", "pick(a,d,b,c)", "unsym / 3 d; sym / 1 d"},
		{"pick(a,b,c,d)", "pick(a,c,d,b)", "unsym / 3 d; unsym / 2 c; sym / 1 c; sym / 2 d"},
		{"pick(a,b,c,d)", "pick(a,d,c,b)", "unsym / 3 d; unsym / 2 c; sym / 1 d; sym / 2 c"},
		{"pick(a,b,c,d)", "pick(a,c,b,d)", "unsym / 2 c; sym / 1 c"},
		{"pick(a,b,c,d,e)", "pick(a,e,x,d,c)", "unsym / 4 e; unsym / 3 d; unsym / 1 b; sym / 1 e; sym / 2 x; sym / 3 d"},
		{"pick(a,b,c,d,e,f)", "pick(a,f,b,d,c,e)", "unsym / 5 f; unsym / 3 d; sym / 1 f; sym / 3 d"},
	} {
		differsAsSaid(t, c)
	}
}

func TestDiffOfRecords(t *testing.T) {
	for _, c := range []diffCase{
		{"rec()", "rec()", ""},
		{"rec(a:num,b:text)", "rec(a:num,b:text)", ""},
		// None stays, also if there are as many.
		{"rec()", "rec(a:num,b:text)", "add / 0 a num; add / 1 b text"},
		{"rec(a:num,b:text)", "rec()", "drop / 1 b text; drop / 0 a num"},
		{"rec(a:num)", "rec(b:num)", "drop / 0 a num; add / 0 b num"},
		{"rec(a:num,b:text)", "rec(c:num,d:text)", "drop / 1 b text; drop / 0 a num; add / 0 c num; add / 1 d text"},
		{
			"rec(a:num,b:num,c:num,d:num,e:num,f:num)", "rec(g:text,h:num,i:num,j:num,k:num,l:text)",
			"drop / 5 f num; drop / 4 e num; drop / 3 d num; drop / 2 c num; drop / 1 b num; drop / 0 a num; add / 0 g text; add / 1 h num; add / 2 i num; add / 3 j num; add / 4 k num; add / 5 l text",
		},
		// Some stay, or all; the first one is like any other.
		{"rec(a:num,b:text)", "rec(b:text)", "drop / 0 a num"},
		{"rec(b:text)", "rec(a:num,b:text)", "add / 0 a num"},
		{"rec(a:num,b:text,c:flag)", "rec(a:num,c:flag)", "drop / 1 b text"},
		{"rec(a:num,b:text,c:flag)", "rec(b:text)", "drop / 2 c flag; drop / 0 a num"},
		{"rec(b:text)", "rec(a:num,b:text,c:flag)", "add / 0 a num; add / 2 c flag"},
		{"rec(a:num,b:flag)", "rec(c:text,a:num,d:text)", "drop / 1 b flag; add / 0 c text; add / 2 d text"},
		// Both have them, in another order.
		{"rec(a:num,b:text)", "rec(b:text,a:num)", "drop / 1 b text; add / 0 b text"},
		{"rec(a:num,b:flag,c:text)", "rec(c:text,b:flag,a:num)", "drop / 2 c text; drop / 1 b flag; add / 0 c text; add / 1 b flag"},
		{"rec(a:num,b:flag,c:text)", "rec(b:flag,c:text,a:num)", "drop / 2 c text; drop / 1 b flag; add / 0 b flag; add / 1 c text"},
		{"rec(a:num,b:flag,c:text)", "rec(c:text,a:num,b:flag)", "drop / 2 c text; add / 0 c text"},
		// Who stays may have another shape; who does not comes with it.
		{"rec(a:num)", "rec(a:text)", "set /a text num"},
		{"rec(a:num)", "rec(a:maybe(num))", "maybe /a"},
		{"rec(a:list(num))", "rec(a:num)", "one /a"},
		{"rec(a:num,b:num)", "rec(a:list(num),b:text)", "list /a; set /b text num"},
		{"rec(a:num,b:num)", "rec(b:text,a:num)", "drop / 1 b num; add / 0 b text"},
		{"rec(a:num,b:num)", "rec(b:text,a:text)", "drop / 1 b num; add / 0 b text; set /a text num"},
		{"rec(a:num,b:num)", "rec(b:maybe(num),a:num)", "drop / 1 b num; add / 0 b maybe(num)"},
		{"rec(a:pick(x,y),b:num)", "rec(b:num,a:pick(x))", "drop / 1 b num; add / 0 b num; unsym /a 1 y"},
		// What stays is told where it stands in the second one, among those that come.
		{
			"rec(a:num,b:flag,c:text)", "rec(x:num,a:text,y:num,c:maybe(text))",
			"drop / 1 b flag; add / 0 x num; set /a text num; add / 2 y num; maybe /c",
		},
		{"rec(a:num,b:num)", "rec(a:text,x:num,b:text,y:num)", "set /a text num; add / 1 x num; set /b text num; add / 3 y num"},
		{"rec(a:rec(b:num))", "rec(a:rec(b:num,c:num))", "add /a 1 c num"},
		{"rec(a:rec(a:num),b:rec(a:num))", "rec(a:rec(),b:rec(a:num,b:num))", "drop /a 0 a num; add /b 1 b num"},
		{"rec(a:rec(a:num,b:num),c:num)", "rec(c:num,a:rec(b:num,a:num))", "drop / 1 c num; add / 0 c num; drop /a 1 b num; add /a 0 b num"},
		{"rec(a:list(pick(x,y)))", "rec(a:list(pick(x,z)))", "unsym /a/* 1 y; sym /a/* 1 z"},
		{"rec(a:rec(b:list(pick(x,y))))", "rec(a:rec(b:list(pick(x,z,y))))", "sym /a/b/* 1 z"},
		{"rec(a:rec(b:list(maybe(num))))", "rec(a:rec(b:list(maybe(text))))", "set /a/b/*/* text num"},
		{"rec(a:rec(a:rec(a:rec())))", "rec(a:rec(a:rec(a:rec(a:num))))", "add /a/a/a 0 a num"},
		{"list(list(list(list(num))))", "list(list(list(list(text))))", "set /*/*/*/* text num"},
		{"rec(longest:num,longestx:flag)", "rec(longestx:text,longer:num)", "drop / 0 longest num; set /longestx text flag; add / 1 longer num"},
	} {
		differsAsSaid(t, c)
	}
}

// TestDiffOfEachKindAndEachKind: where the Kinds are not the same, there is one edit; where one is of the other, that tells so.
func TestDiffOfEachKindAndEachKind(t *testing.T) {
	for _, a := range kinds() {
		for _, b := range kinds() {
			want := []impl.Edit{setOf("", b.shape, a.shape)}
			switch {
			case alike(a.shape, b.shape):
				want = nil
			case a.shape.Kind == b.shape.Kind && len(a.shape.Shapes) == 0:
				want = []impl.Edit{addOf("", 0, "a", num)}
			case a.shape.Kind == b.shape.Kind:
				want = []impl.Edit{dropOf("", 0, "a", num)}
			case a.shape.Kind == impl.ShNum && b.shape.Kind == impl.ShMaybe:
				want = []impl.Edit{bareOf(impl.EdMaybe, "")}
			case a.shape.Kind == impl.ShMaybe && b.shape.Kind == impl.ShNum:
				want = []impl.Edit{bareOf(impl.EdSure, "")}
			case a.shape.Kind == impl.ShNum && b.shape.Kind == impl.ShList:
				want = []impl.Edit{bareOf(impl.EdList, "")}
			case a.shape.Kind == impl.ShList && b.shape.Kind == impl.ShNum:
				want = []impl.Edit{bareOf(impl.EdOne, "")}
			}
			differsAs(t, a.shape, b.shape, want)
			around := putAround(b.shape)
			for where, s := range putAround(a.shape) {
				if impl.ShapeRight(s) && impl.ShapeRight(around[where]) {
					differsAsBeside(t, s, around[where])
				}
			}
		}
	}
}

func TestNothingLiesBetweenTheSame(t *testing.T) {
	empty := impl.Shape{Kind: impl.ShRec, Syms: []string{}, Names: []string{}, Shapes: []impl.Shape{}}
	differsAs(t, empty, rec(), nil)
	differsAs(t, rec(list(rec())), rec(list(empty)), nil)
	random := rand.New(rand.NewSource(67))
	shapes := append(smallShapes(), wide(impl.MaxDeep), sized(impl.MaxBytes+1), lists(4))
	for range 500 {
		shapes = append(shapes, someShape(random, 1+random.Intn(impl.MaxDeep)))
	}
	for _, s := range shapes {
		differsAs(t, s, s, nil)
		differsAs(t, s, copied(s), nil)
	}
}

// TestDiffOfWhateverWords: whichever words there are, in whichever order, of a ShPick and of a ShRec; those of a ShRec have
// other shapes where they stand elsewhere.
func TestDiffOfWhateverWords(t *testing.T) {
	recsOf := func(words []string, part func(at int) impl.Shape) impl.Shape {
		s := impl.Shape{Kind: impl.ShRec, Names: words}
		for at := range words {
			s.Shapes = append(s.Shapes, part(at))
		}
		return s
	}
	flags := func(at int) impl.Shape { return flag }
	byPlace := func(at int) impl.Shape { return []impl.Shape{num, maybe(num), pick("x", "y"), pick("x")}[at] }
	all := selections("a", "b", "c", "d")
	for _, from := range all {
		for _, to := range all {
			differsAsBeside(t, recsOf(from, flags), recsOf(to, flags))
			differsAsBeside(t, recsOf(from, byPlace), recsOf(to, byPlace))
			if len(from) > 0 && len(to) > 0 {
				differsAsBeside(t, pick(from...), pick(to...))
			}
		}
	}
	six := []string{"a", "b", "c", "d", "e", "f"}
	for _, to := range selections(six...) {
		if len(to) == len(six) {
			differsAsBeside(t, pick(six...), pick(to...))
			differsAsBeside(t, recsOf(to, flags), recsOf(six, flags))
		}
	}
}

func TestDiffOfSmallShapes(t *testing.T) {
	all := smallShapes()
	more := 0
	for _, a := range all {
		for _, b := range all {
			if differsAsBeside(t, a, b) > 1 {
				more++
			}
		}
	}
	same(t, fmt.Sprint("enough are more than one: ", more), more > len(all), true)
}

// TestDiffOfSomeShapes: promise 11, of shapes that are unlike here and there, and of such as have nothing in common.
func TestDiffOfSomeShapes(t *testing.T) {
	random := rand.New(rand.NewSource(68))
	kinds, deep := map[int64]int{}, map[int]int{}
	for range 3000 {
		a, b := someUnlike(random)
		want := diffBy(a, b)
		if len(want) > impl.MaxList {
			continue
		}
		differsAs(t, a, b, want)
		differsAsBeside(t, b, a)
		for _, e := range want {
			kinds[e.Kind]++
			deep[len(e.Path)]++
		}
	}
	for kind := int64(impl.EdAdd); kind <= impl.EdSet; kind++ {
		same(t, fmt.Sprint("enough are of ", kind, ": ", kinds[kind]), kind == impl.EdName || kinds[kind] > 30, true)
	}
	for steps := range impl.MaxDeep {
		same(t, fmt.Sprint("enough have ", steps, " steps: ", deep[steps]), deep[steps] > 50, true)
	}
}

// TestDiffOfWhatWasEdited: what lies between a shape and what comes of it by some edits does the same as these.
func TestDiffOfWhatWasEdited(t *testing.T) {
	random := rand.New(rand.NewSource(69))
	for range 1000 {
		s, l, shapes := someTrip(random, 5)
		differsAsBeside(t, s, shapes[len(l)])
		differsAsBeside(t, shapes[len(l)], s)
	}
}

// TestManyEditsLieBetween: DiffOf tells as many as there are; no more than MaxList can be done at once, but one part after
// the other they can.
func TestManyEditsLieBetween(t *testing.T) {
	a := wide(impl.MaxDeep)
	for _, count := range []int{1, impl.MaxList - 1, impl.MaxList, impl.MaxList + 1, 1296} {
		b := turnedIn(count)
		what := fmt.Sprint(count, " turned")
		l := impl.DiffOf(a, b)
		sameEdits(t, what, l, diffBy(a, b))
		same(t, what, len(l), count)
		if count <= impl.MaxList {
			differsAs(t, a, b, l)
			continue
		}
		tells(t, what, impl.EditsApply(a, l), impl.ErrSize)
		same(t, what+": Cost", impl.Cost(l), -1)
		now := a
		for part := range slices.Chunk(l, impl.MaxList) {
			next := impl.EditsApply(now, part)
			becomes(t, what, now, next.Shape, part)
			now = next.Shape
		}
		sameShapeOut(t, what, impl.ShapeOut{Shape: now}, impl.ShapeOut{Shape: b})
	}
}

func TestNothingLiesBetweenWrongShapes(t *testing.T) {
	for what, wrong := range wrongShapes() {
		for where, s := range putAround(wrong) {
			what := where + what
			for _, right := range []impl.Shape{flag, num, pick("a"), maybe(num), list(num), rec(), rec(num), rec(num, num), wide(3)} {
				sameEdits(t, what+", a", impl.DiffOf(s, right), nil)
				sameEdits(t, what+", b", impl.DiffOf(right, s), nil)
			}
			for _, other := range []impl.Shape{s, wrong, maybe(s), list(s), rec(s), {}, ring(impl.ShList), pick()} {
				sameEdits(t, what+", both", impl.DiffOf(s, other), nil)
				sameEdits(t, what+", both, turned round", impl.DiffOf(other, s), nil)
			}
		}
	}
}
