package tests

import (
	"math/rand"
	"slices"
	"strings"
	"testing"

	"loop.example/g00848/impl"
)

var manySteps = strings.Split(times("a", impl.MaxList+1), "")

func TestPathsAndTheirTexts(t *testing.T) {
	for _, c := range []struct {
		path []string
		text string
	}{
		{nil, "/"},
		{[]string{}, "/"},
		{[]string{"*"}, "/*"},
		{[]string{"a"}, "/a"},
		{[]string{"abcdefgh"}, "/abcdefgh"},
		{[]string{"z", "*"}, "/z/*"},
		{[]string{"*", "z"}, "/*/z"},
		{[]string{"*", "*", "*"}, "/*/*/*"},
		{[]string{"a", "a", "a", "a"}, "/a/a/a/a"},
		{[]string{"a", "*", "b", "*", "c"}, "/a/*/b/*/c"},
		{[]string{"*", "*", "*", "*", "*"}, "/*/*/*/*/*"},
		{[]string{"abcdefgh", "bcdefghi", "cdefghij", "defghijk", "efghijkl"}, "/abcdefgh/bcdefghi/cdefghij/defghijk/efghijkl"},
	} {
		same(t, "PathRight of "+c.text, impl.PathRight(c.path), true)
		same(t, "PathText", impl.PathText(c.path), c.text)
		samePath(t, "PathRead of "+c.text, impl.PathRead(c.text), c.path)
	}
}

// wrongSteps are neither `*` nor a word.
var wrongSteps = []string{
	"", " ", "**", "*a", "a*", " *", "* ", "*\n", "A", "aB", "a1", "1", "a_", "_", "abcdefghi", "a b", " a", "a ", "a\n", "a\x00", "ä", "a\xe4",
	"/", "//", "/a", "a/", "a/b", "*/*", ".", "..", "?", "+", ")", "+*", "\xaa", times("a", 1000), times("*", impl.MaxBytes), times("a", impl.MaxBytes+1), tooLong,
}

// refusedPath is not right.
func refusedPath(t *testing.T, what string, p []string) {
	t.Helper()
	same(t, what, impl.PathRight(p), false)
	same(t, what, impl.PathText(p), "")
}

func TestWrongSteps(t *testing.T) {
	for _, wrong := range wrongSteps {
		for _, p := range [][]string{{wrong}, {"a", wrong}, {wrong, "a"}, {"*", wrong, "*"}, {"a", "b", "c", "d", wrong}, {wrong, wrong, wrong, wrong, wrong}} {
			refusedPath(t, shown(p), p)
		}
	}
	for b := range 256 {
		one := string([]byte{byte(b)})
		right := b == '*' || b >= 'a' && b <= 'z'
		same(t, "alone "+one, impl.PathRight([]string{one}), right)
		same(t, "last "+one, impl.PathRight([]string{"a", "*", one}), right)
	}
}

func TestTooManySteps(t *testing.T) {
	for _, size := range []int{impl.MaxDeep + 1, impl.MaxDeep + 2, 2 * impl.MaxDeep, 100, impl.MaxList - 1, impl.MaxList, impl.MaxList + 1} {
		refusedPath(t, "words", manySteps[:size])
		refusedPath(t, "stars", slices.Repeat([]string{"*"}, size))
		samePath(t, "words", impl.PathRead("/"+strings.Join(manySteps[:size], "/")), nil)
		samePath(t, "stars", impl.PathRead(times("/*", size)), nil)
	}
	refusedPath(t, "one more, far behind", append(slices.Clone(manySteps[:impl.MaxDeep]), "*"))
	same(t, "as many as may be", impl.PathRight(manySteps[:impl.MaxDeep]), true)
}

// readsNoPath: it is the text of none.
func readsNoPath(t *testing.T, text string) {
	t.Helper()
	samePath(t, "PathRead of "+shown(text), impl.PathRead(text), nil)
}

func TestPathReadOfNone(t *testing.T) {
	for _, wrong := range wrongSteps {
		if wrong == "/" || !strings.Contains(wrong, "/") {
			for _, text := range []string{wrong, "/" + wrong, "/a/" + wrong, "/" + wrong + "/a", "/*/" + wrong + "/*"} {
				readsNoPath(t, text)
			}
		}
	}
	for _, text := range []string{
		"", "/", "//", "///", "a", "*", "a/", "*/", "a/b", "*/*", "a/b/c", "//a", "//*", "/a//b", "/*//*", "/a/b//c", "/a/", "/*/", "/a/b/", "/a//", "//a/",
		" /a", "/a ", "/ a", "/a /b", "/a/ b", "/a\n", "\n/a", "/a,b", `\a`, "/a\\b", ".a", "/a.b", "\x00/a", "/a\x00", "\xff/a", "/a|b", "/a/./b", "/a/../b", "?a", "0a",
		"/a/b/c/d/e/", "/a/b/c/d//e", "/a/b/c/d/e/f", "/*/*/*/*/*/*", "/abcdefghi", "/a/abcdefghi",
		times("/", 1000), times("/a", impl.MaxBytes/2), times("/", impl.MaxBytes), times("/", impl.MaxBytes+1), times("/a", impl.MaxBytes), "/" + times("a", impl.MaxBytes-1), "/" + times("a", impl.MaxBytes),
	} {
		readsNoPath(t, text)
	}
}

// saidPath takes a text apart beside the program.
func saidPath(text string) []string {
	if !strings.HasPrefix(text, "/") || text == "/" {
		return nil
	}
	out := []string{}
	for _, step := range strings.Split(text[1:], "/") {
		letters := strings.Trim(step, "abcdefghijklmnopqrstuvwxyz") == "" && len(step) >= 1 && len(step) <= 8
		if step != "*" && !letters {
			return nil
		}
		out = append(out, step)
	}
	if len(out) > 5 {
		return nil
	}
	return out
}

// readsPathAsSaid tells whether that is the text of a path of some steps.
func readsPathAsSaid(t *testing.T, text string) bool {
	t.Helper()
	want := saidPath(text)
	got := impl.PathRead(text)
	samePath(t, "PathRead of "+shown(text), got, want)
	if len(want) == 0 {
		return false
	}
	same(t, "PathRight of "+shown(text), impl.PathRight(got), true)
	same(t, "PathText", impl.PathText(got), text)
	return true
}

// TestShortPathTexts reads whatever can be put together of a few pieces.
func TestShortPathTexts(t *testing.T) {
	right := 0
	for _, text := range putTogether([]string{"/", "*", "a", "bc", "A"}, 7) {
		if readsPathAsSaid(t, text) {
			right++
		}
	}
	same(t, "enough right ones", right > 100, true)
}

// TestTurnedPathTexts reads right texts of which a byte is another one, goes, or comes.
func TestTurnedPathTexts(t *testing.T) {
	for _, text := range []string{"/a", "/*", "/a/*/b", "/abcdefgh/*", "/a/b/c/d/e", "/*/*/*/*/*", "/abcdefgh/bcdefghi/cdefghij/defghijk/efghijkl"} {
		same(t, "unturned", readsPathAsSaid(t, text), true)
		for _, wrong := range turned(text, "abz`{A0_*/()+.,: \n\x00\xff") {
			readsPathAsSaid(t, wrong)
		}
	}
}

// TestPathsComeBack: what a shape's paths are written as leads to the same places.
func TestPathsComeBack(t *testing.T) {
	random := rand.New(rand.NewSource(30))
	for range 300 {
		s := someShape(random, impl.MaxDeep)
		for _, one := range placesOf(s) {
			text := impl.PathText(one.path)
			same(t, "PathText", text, "/"+strings.Join(one.path, "/"))
			samePath(t, "PathRead of "+text, impl.PathRead(text), one.path)
		}
	}
}
