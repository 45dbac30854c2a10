package tests

import (
	"math"
	"math/rand/v2"
	"slices"
	"testing"

	"loop.example/drawnanew/impl"
)

// wantTop tries all places where a view may stand for the nearest one.
func wantTop(high, view, top int) int {
	best := 0
	for at := 1; at+view <= high; at++ {
		if max(at-top, top-at) < max(best-top, top-best) {
			best = at
		}
	}
	return best
}

// wantScrolled goes down row by row until the last of the rows is seen.
func wantScrolled(view, top, from, many int) int {
	if from < top || many > view {
		return from
	}
	for top+view < from+many {
		top++
	}
	return top
}

func checkTop(t *testing.T, high, view, top, want int) {
	t.Helper()
	if got := impl.ScrollTop(high, view, top); got != want {
		t.Errorf("ScrollTop(%d, %d, %d) = %d, not %d", high, view, top, got, want)
	}
}

func checkScrolled(t *testing.T, view, top, from, many, want int) {
	t.Helper()
	if got := impl.ScrollTo(view, top, from, many); got != want {
		t.Errorf("ScrollTo(%d, %d, %d, %d) = %d, not %d", view, top, from, many, got, want)
	}
}

func checkView(t *testing.T, tree impl.Tree, rules []impl.Rule, wide, view, top int) {
	t.Helper()
	want := wantRows(tree, rules, wide, top+view)[top:]
	if got := impl.ViewRows(tree, rules, wide, view, top); !slices.Equal(got, want) {
		t.Errorf("ViewRows(%s, %v, %d, %d, %d) = %q, not %q", brief(tree), rules, wide, view, top, got, want)
	}
}

func checkNoView(t *testing.T, tree impl.Tree, rules []impl.Rule, wide, view, top int) {
	t.Helper()
	if got := impl.ViewRows(tree, rules, wide, view, top); len(got) > 0 {
		t.Errorf("ViewRows(%v, %d, %d, %d) = %q", rules, wide, view, top, got)
	}
}

// beyond are numbers beyond a range.
func beyond(least, most int) []int {
	return []int{math.MinInt, -1 << 32, least - 2, least - 1, most + 1, most + 2, 1 << 32, math.MaxInt}
}

func TestScrollTop(t *testing.T) {
	for high := range 40 {
		for _, view := range []int{0, 1, 2, 4, 29, 30} {
			for top := -5; top < 45; top++ {
				checkTop(t, high, view, top, wantTop(high, view, top))
			}
		}
	}
	// Ahead of the beginning, at the last place, and behind it.
	checkTop(t, 10, 4, -1, 0)
	checkTop(t, 10, 4, 6, 6)
	checkTop(t, 10, 4, 7, 6)
	// Less high than the view, as high, and one higher.
	checkTop(t, 3, 4, 1, 0)
	checkTop(t, 4, 4, 1, 0)
	checkTop(t, 5, 4, 1, 1)
	checkTop(t, 5, 4, 2, 1)
}

func TestScrollTopOfEndsOfRanges(t *testing.T) {
	checkTop(t, 100000, 30, 100000, 99970)
	checkTop(t, 100000, 0, 100000, 100000)
	checkTop(t, 100000, 30, 99970, 99970)
	checkTop(t, 100000, 30, -100000, 0)
	checkTop(t, 0, 30, 100000, 0)
	checkTop(t, 0, 0, -100000, 0)
	for _, n := range beyond(0, 100000) {
		checkTop(t, n, 4, 1, -1)
	}
	for _, n := range beyond(0, 30) {
		checkTop(t, 50, n, 1, -1)
	}
	for _, n := range beyond(-100000, 100000) {
		checkTop(t, 50, 4, n, -1)
	}
}

func TestScrollTo(t *testing.T) {
	for view := range 6 {
		for top := range 8 {
			for from := range 14 {
				for many := range 9 {
					checkScrolled(t, view, top, from, many, wantScrolled(view, top, from, many))
				}
			}
		}
	}
	// Rows ahead of the view, in it, across its end, and behind it.
	checkScrolled(t, 4, 5, 2, 2, 2)
	checkScrolled(t, 4, 5, 4, 2, 4)
	checkScrolled(t, 4, 5, 5, 4, 5)
	checkScrolled(t, 4, 5, 7, 2, 5)
	checkScrolled(t, 4, 5, 8, 2, 6)
	checkScrolled(t, 4, 5, 20, 2, 18)
	// None, as many as the view has, and one more.
	checkScrolled(t, 4, 5, 5, 0, 5)
	checkScrolled(t, 4, 5, 9, 0, 5)
	checkScrolled(t, 4, 5, 10, 0, 6)
	checkScrolled(t, 4, 5, 6, 4, 6)
	checkScrolled(t, 4, 5, 6, 5, 6)
	checkScrolled(t, 4, 5, 20, 5, 20)
	checkScrolled(t, 0, 5, 20, 1, 20)
	checkScrolled(t, 0, 5, 20, 0, 20)
}

func TestScrollToOfEndsOfRanges(t *testing.T) {
	checkScrolled(t, 30, 100000, 100000, 30, 100000)
	checkScrolled(t, 30, 0, 100000, 30, 100000)
	checkScrolled(t, 30, 0, 100000, 29, 99999)
	checkScrolled(t, 30, 0, 100000, 100000, 100000)
	checkScrolled(t, 30, 100000, 0, 100000, 0)
	checkScrolled(t, 0, 0, 0, 0, 0)
	for _, n := range beyond(0, 30) {
		checkScrolled(t, n, 5, 6, 2, -1)
		checkScrolled(t, n, 5, 2, 2, -1)
	}
	for _, n := range beyond(0, 100000) {
		checkScrolled(t, 4, n, 6, 2, -1)
		checkScrolled(t, 4, 5, n, 2, -1)
		checkScrolled(t, 4, 5, 6, n, -1)
		checkScrolled(t, 4, n, n, n, -1)
	}
}

func TestViewRows(t *testing.T) {
	tree := read("(t0 'a' 'b' (t1 'cdefg') 'h')")
	for view := range 9 {
		for top := range 9 {
			checkView(t, tree, nil, 3, view, top)
			checkView(t, tree, ruled(plain(4, 2), plain(2, 1)), 7, view, top)
		}
	}
	// A view and a top that are higher together than a screen.
	high := elem(0, -1)
	for n := range 70 {
		high.Kids = append(high.Kids, word("abcdefghijkl"[:1+n%12]))
	}
	for _, n := range [][2]int{{30, 0}, {30, 1}, {1, 30}, {15, 16}, {29, 30}, {30, 29}, {30, 30}, {0, 30}, {0, 0}} {
		checkView(t, high, nil, 12, n[0], n[1])
		checkView(t, high, nil, 5, n[0], n[1])
		checkView(t, high, nil, 60, n[0], n[1])
		checkView(t, high, nil, 0, n[0], n[1])
		if got := impl.ViewRows(high, nil, 12, n[0], n[1]); len(got) != n[0] {
			t.Errorf("a view of %d rows has %d", n[0], len(got))
		}
	}
	if got := impl.ViewRows(high, nil, 3, 3, 29); !slices.Equal(got, []string{"jkl", "a  ", "ab "}) {
		t.Errorf("ViewRows = %q", got)
	}
}

func TestViewRowsOfWhatIsNotValid(t *testing.T) {
	for _, n := range beyond(0, 30) {
		checkNoView(t, fullTree(), nil, 5, n, 1)
		checkNoView(t, fullTree(), nil, 5, 4, n)
		checkNoView(t, fullTree(), nil, 5, n, n)
	}
	for _, n := range beyond(0, 60) {
		checkNoView(t, fullTree(), nil, n, 4, 1)
	}
	for _, bad := range invalidTrees() {
		checkNoView(t, bad, nil, 5, 4, 1)
	}
	for _, x := range invalidRules() {
		checkNoView(t, fullTree(), ruled(x), 5, 4, 1)
	}
}

func TestViewsChangeAndShareNothing(t *testing.T) {
	eachBoxes(200, func(r *rand.Rand, tree impl.Tree, rules []impl.Rule, wide int) {
		before, copied := wantText(tree), slices.Clone(rules)
		checkUnshared(t, impl.ViewRows(tree, rules, wide, r.IntN(31), r.IntN(31)), tree, rules)
		if wantText(tree) != before || !slices.Equal(rules, copied) {
			t.Errorf("%s or %v is another one now", before, copied)
		}
	})
}

func TestPromise69WhereAViewMayStandItStays(t *testing.T) {
	r := rand.New(rand.NewPCG(21, 20))
	for range 3000 {
		high, view, top := r.IntN(100001), r.IntN(31), r.IntN(200001)-100000
		if r.IntN(2) == 0 {
			high, top = r.IntN(60), r.IntN(90)-30
		}
		at := impl.ScrollTop(high, view, top)
		checkTop(t, high, view, at, at)
		if at < 0 || at > 0 && at+view > high || top >= 0 && top+view <= high && at != top {
			t.Errorf("ScrollTop(%d, %d, %d) = %d", high, view, top, at)
		}
	}
}

func TestPromise70AllRowsThatHaveRoomAreSeen(t *testing.T) {
	r := rand.New(rand.NewPCG(21, 21))
	for range 3000 {
		view, top, from, many := r.IntN(31), r.IntN(100001), r.IntN(100001), r.IntN(40)
		if r.IntN(2) == 0 {
			top, from = r.IntN(40), r.IntN(60)
		}
		at := impl.ScrollTo(view, top, from, many)
		checkScrolled(t, view, at, from, many, at)
		if at > from || many <= view && at+view < from+many || many > view && at != from {
			t.Errorf("ScrollTo(%d, %d, %d, %d) = %d", view, top, from, many, at)
		}
	}
}

func TestPromise71AViewIsAPartOfTheScreen(t *testing.T) {
	eachBoxes(1000, func(r *rand.Rand, tree impl.Tree, rules []impl.Rule, wide int) {
		view := r.IntN(31)
		top := r.IntN(31 - view)
		rows := impl.Paint(tree, rules, wide, view+top)
		if got := impl.ViewRows(tree, rules, wide, view, top); !slices.Equal(got, rows[top:]) {
			t.Errorf("ViewRows(%s, %v, %d, %d, %d) = %q, not the last ones of %q", brief(tree), rules, wide, view, top, got, rows)
		}
	})
}
