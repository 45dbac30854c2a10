package tests

import (
	"math/rand/v2"
	"slices"
	"strings"
	"testing"

	"loop.example/drawnanew/impl"
)

func wantFound(t impl.Tree, x impl.Rule) [][]int {
	var ways [][]int
	for _, way := range waysOf(t) {
		var around []impl.Tree
		for n := range way {
			around = append(around, partAt(t, way[:n]))
		}
		if wantMeets(x, partAt(t, way), around) {
			ways = append(ways, way)
		}
	}
	return ways
}

func wantTextOf(t impl.Tree) string {
	s := t.Text
	for _, kid := range t.Kids {
		s += wantTextOf(kid)
	}
	return s
}

// wantWith asks of each part that has a text whether one of those in it has it, too.
func wantWith(t impl.Tree, s string) [][]int {
	var ways [][]int
	for _, way := range waysOf(t) {
		if strings.Contains(wantTextOf(partAt(t, way)), s) {
			ways = append(ways, way)
		}
	}
	return slices.DeleteFunc(slices.Clone(ways), func(way []int) bool {
		return slices.ContainsFunc(ways, func(o []int) bool { return len(o) > len(way) && slices.Equal(o[:len(way)], way) })
	})
}

func checkAllFound(t *testing.T, tree impl.Tree, x impl.Rule) [][]int {
	t.Helper()
	want := wantFound(tree, x)
	if got := impl.FindAll(tree, x); !same(got, want) {
		t.Errorf("FindAll(%s, %v) = %v, not %v", brief(tree), x, got, want)
	}
	return want
}

func checkFound(t *testing.T, s string, x impl.Rule, want ...[]int) {
	t.Helper()
	if got := checkAllFound(t, read(s), x); !same(got, want) {
		t.Errorf("the elements of %s that %v meets are %v, not %v", s, x, got, want)
	}
}

func checkTextsFound(t *testing.T, tree impl.Tree, s string) [][]int {
	t.Helper()
	want := wantWith(tree, s)
	if got := impl.FindText(tree, s); !same(got, want) {
		t.Errorf("FindText(%s, %q) = %v, not %v", brief(tree), s, got, want)
	}
	return want
}

func checkTexts(t *testing.T, tree, s string, want ...[]int) {
	t.Helper()
	if got := checkTextsFound(t, read(tree), s); !same(got, want) {
		t.Errorf("the parts of %s with %q are %v, not %v", tree, s, got, want)
	}
}

func checkNotFound(t *testing.T, tree impl.Tree, s string) {
	t.Helper()
	if got := impl.FindText(tree, s); len(got) > 0 {
		t.Errorf("FindText(%s, %q) = %v", brief(tree), s, got)
	}
}

func TestFindAll(t *testing.T) {
	const s = "(t0 p0=1 (t1 p0=1 p1='a' (t2 'x' (t1))) (t2 p0=2) 'y')"
	whole, first, inner, deep, second := []int{}, []int{0}, []int{0, 0}, []int{0, 0, 1}, []int{1}
	for look := range 5 {
		for _, give := range []int{0, 1, 60} {
			x := plain(look, give)
			// Nothing asked for: all elements, and no text.
			checkFound(t, s, x, whole, first, inner, deep, second)
			checkFound(t, s, ofTag(1, x), first, deep)
			checkFound(t, s, ofTag(0, x), whole)
			checkFound(t, s, ofTag(4, x))
			// Above: not the element itself, right above, further above.
			checkFound(t, s, inside(0, x), first, inner, deep, second)
			checkFound(t, s, inside(1, x), inner, deep)
			checkFound(t, s, inside(2, x), deep)
			checkFound(t, s, inside(3, x))
			checkFound(t, s, ofTag(1, inside(1, x)), deep)
			checkFound(t, s, ofTag(0, inside(0, x)))
			// A Name with the value, and with another one.
			checkFound(t, s, ofProp(0, num(1), x), whole, first)
			checkFound(t, s, ofProp(0, num(2), x), second)
			checkFound(t, s, ofProp(0, text("1"), x))
			checkFound(t, s, ofProp(1, text("a"), x), first)
			checkFound(t, s, ofProp(3, none(), x))
			// All of them.
			checkFound(t, s, ofTag(1, inside(0, ofProp(0, num(1), x))), first)
			checkFound(t, s, ofTag(2, inside(0, ofProp(0, num(1), x))))
			checkFound(t, s, ofTag(1, inside(2, ofProp(0, num(1), x))))
		}
	}
	checkFound(t, "'a'", plain(0, 1))
	checkFound(t, "(t3)", plain(0, 1), whole)
	checkFound(t, "(t3)", inside(3, plain(0, 1)))
	checkAllFound(t, flat(200), plain(0, 1))
	checkAllFound(t, nested(24, elem(1, -1)), inside(0, plain(0, 1)))
}

func TestTextOf(t *testing.T) {
	for s, want := range map[string]string{"'a'": "a", "''": "", "(t0)": "", "(t0 '' (t1 ''))": "", "(t0 (t1 'ab') (t2 (t1 'c')))": "abc", "(t0 'a' (t1 'b' (t2 '-7') ' ') 'c')": "ab-7 c", "(t0 p0='x' 'y')": "y"} {
		if got := impl.TextOf(read(s)); got != want {
			t.Errorf("TextOf(%s) = %q, not %q", s, got, want)
		}
	}
	long := elem(0, -1)
	for range 199 {
		long.Kids = append(long.Kids, word("abcdefghijkl"))
	}
	if got := impl.TextOf(long); got != strings.Repeat("abcdefghijkl", 199) {
		t.Errorf("TextOf is %d bytes long", len(got))
	}
	for _, bad := range invalidTrees() {
		if got := impl.TextOf(bad); got != "" {
			t.Errorf("TextOf of what is no tree = %.100q", got)
		}
	}
}

func TestFindText(t *testing.T) {
	const s = "(t0 (t1 'ab') (t2 (t1 'c' 'ab') 'cd'))"
	// In one text, and across two of them.
	checkTexts(t, s, "d", []int{1, 1})
	checkTexts(t, s, "cd", []int{1, 1})
	checkTexts(t, s, "ca", []int{1, 0})
	checkTexts(t, s, "cab", []int{1, 0})
	checkTexts(t, s, "abcd", []int{1})
	checkTexts(t, s, "abca", []int{})
	checkTexts(t, s, "abcabcd", []int{})
	// In several parts, and in a part and in one in it: the smallest ones count.
	checkTexts(t, s, "ab", []int{0, 0}, []int{1, 0, 1})
	checkTexts(t, s, "c", []int{1, 0, 0}, []int{1, 1})
	checkTexts(t, s, "bc", []int{1})
	// Where one in it has it, what is across does not count.
	checkTexts(t, "(t0 'ab' 'a' 'b')", "ab", []int{0})
	checkTexts(t, "(t0 (t1 'a' 'b') 'ab')", "ab", []int{0}, []int{1})
	// Twice, and nowhere.
	checkTexts(t, "'abab'", "ab", []int{})
	checkTexts(t, "(t0 'abab' 'ab')", "ab", []int{0}, []int{1})
	checkTexts(t, s, "x")
	checkTexts(t, s, "ba")
	checkTexts(t, s, "A")
	checkTexts(t, s, "\x00\xff")
	checkTexts(t, "(t0)", "a")
	checkTexts(t, "(t0 '')", " ")
	checkTexts(t, "(t0 '-7' '-7')", "-7-7", []int{})
	checkTexts(t, "(t0 p0='ab')", "ab")
}

func TestFindTextOfAllLengths(t *testing.T) {
	tree := read("(t0 'abcdefghijkl' (t1 'mn' 'o'))")
	checkNotFound(t, tree, "")
	checkNotFound(t, word(""), "")
	for many := 1; many <= 15; many++ {
		s := "abcdefghijklmno"[:many]
		if many > 12 {
			checkNotFound(t, tree, s)
			continue
		}
		if ways := checkTextsFound(t, tree, s); !same(ways, [][]int{{0}}) {
			t.Errorf("the parts with %q are %v", s, ways)
		}
	}
	checkTexts(t, "(t0 'abcdefghijkl' 'mno')", "cdefghijklmn", []int{})
	checkNotFound(t, tree, strings.Repeat("a", 100000))
}

func TestFindingInWhatIsNotValid(t *testing.T) {
	for _, bad := range invalidTrees() {
		checkNotFound(t, bad, "a")
		if got := impl.FindAll(bad, plain(0, 1)); len(got) > 0 {
			t.Errorf("FindAll of what is no tree = %v", got)
		}
	}
	for _, x := range invalidRules() {
		if got := impl.FindAll(fullTree(), x); len(got) > 0 {
			t.Errorf("FindAll(%v) = %v", x, got)
		}
	}
}

func TestFindingChangesAndSharesNothing(t *testing.T) {
	eachBoxes(300, func(r *rand.Rand, tree impl.Tree, _ []impl.Rule, _ int) {
		before := wantText(tree)
		checkUnshared(t, impl.FindAll(tree, randomRule(r)), tree)
		checkUnshared(t, impl.FindAll(tree, plain(0, 1)), tree)
		checkUnshared(t, impl.FindText(tree, "a"), tree)
		impl.TextOf(tree)
		if wantText(tree) != before {
			t.Errorf("%s is another one now", before)
		}
	})
}

func TestFindingInRandomTrees(t *testing.T) {
	found := 0
	eachBoxes(2000, func(r *rand.Rand, tree impl.Tree, rules []impl.Rule, _ int) {
		for _, x := range rules {
			found += len(checkAllFound(t, tree, x))
		}
		for range 4 {
			found += len(checkTextsFound(t, tree, someText(r, tree)))
		}
	})
	if found < 5000 {
		t.Errorf("%d parts are found", found)
	}
}

// someText is a piece of the text of a tree, if it has one.
func someText(r *rand.Rand, t impl.Tree) string {
	s := wantTextOf(t)
	if s == "" {
		return "a"
	}
	at := r.IntN(len(s))
	return s[at:min(len(s), at+1+r.IntN(min(12, 1+r.IntN(12))))]
}

func TestPromise86JustWhatARuleFindsHasItsLook(t *testing.T) {
	eachBoxes(1500, func(r *rand.Rand, tree impl.Tree, rules []impl.Rule, _ int) {
		for _, x := range append(rules, randomRule(r)) {
			ways := impl.FindAll(tree, x)
			x.Look, x.Give = impl.LookWide, 1+r.IntN(60)
			for n, looks := range impl.LooksAll(tree, ruled(x)) {
				way, _ := impl.PartWay(tree, n)
				if found := wantPlace(ways, way) >= 0; found != (looks[impl.LookWide] == x.Give) || !found && looks[impl.LookWide] != 0 {
					t.Errorf("FindAll(%s, %v) = %v, and the looks at %v are %v", brief(tree), x, ways, way, looks)
				}
			}
		}
	})
}

func TestPromise87TheTextOfATreeIsThoseOfItsKids(t *testing.T) {
	eachBoxes(1500, func(_ *rand.Rand, tree impl.Tree, _ []impl.Rule, _ int) {
		for _, way := range waysOf(tree) {
			part, _ := impl.TreeAt(tree, way)
			s := part.Text
			for _, kid := range part.Kids {
				s += impl.TextOf(kid)
			}
			if got := impl.TextOf(part); got != s || got != wantTextOf(part) {
				t.Errorf("TextOf(%s) = %q, not %q", brief(part), got, s)
			}
		}
	})
}

func TestPromise88WhereATextIsFoundItIs(t *testing.T) {
	eachBoxes(1500, func(r *rand.Rand, tree impl.Tree, _ []impl.Rule, _ int) {
		for _, s := range []string{someText(r, tree), "ab", "z1", "0"} {
			ways := impl.FindText(tree, s)
			for _, way := range ways {
				if part, ok := impl.TreeAt(tree, way); !ok || !strings.Contains(impl.TextOf(part), s) {
					t.Errorf("FindText(%s, %q) = %v", brief(tree), s, ways)
				}
			}
			if (len(ways) > 0) != strings.Contains(impl.TextOf(tree), s) {
				t.Errorf("FindText(%s, %q) = %v", brief(tree), s, ways)
			}
		}
	})
}
