package tests

import (
	"math"
	"math/rand/v2"
	"slices"
	"testing"

	"loop.example/drawnanew/impl"
)

// wantAfter asks each of the Kids of the other part whether its partner is on the way.
func wantAfter(a, b impl.Tree, way []int) ([]int, bool) {
	if a.Tag != b.Tag || a.Key != b.Key {
		return nil, false
	}
	if len(way) == 0 {
		return nil, true
	}
	for to, at := range wantPartners(a.Kids, b.Kids) {
		if at >= 0 && at == way[0] {
			after, ok := wantAfter(a.Kids[at], b.Kids[to], way[1:])
			if !ok {
				return nil, false
			}
			return append([]int{to}, after...), true
		}
	}
	return nil, false
}

func wantPlace(ways [][]int, way []int) int {
	return slices.IndexFunc(ways, func(w []int) bool { return slices.Equal(w, way) })
}

// wantNext goes on in the ways twice over, one behind the other.
func wantNext(ways [][]int, way []int, step int) ([]int, bool) {
	many := len(ways)
	if many == 0 || step*step != 1 {
		return nil, false
	}
	round := slices.Concat(ways, ways, ways)
	at := wantPlace(ways, way)
	if at < 0 {
		return round[many+(step-1)/2], true
	}
	return round[many+at+step], true
}

func wantFocus(p []impl.Comp, s, next []impl.Cell, way []int) ([]int, bool) {
	ways := wantWays(p, next, 0)
	if after, ok := wantAfter(wantTree(p, s), wantTree(p, next), way); ok && wantPlace(ways, after) >= 0 {
		return after, true
	}
	return wantNext(ways, nil, 1)
}

func checkAfter(t *testing.T, a, b impl.Tree, way, want []int, found bool) {
	t.Helper()
	if got, ok := impl.WayAfter(a, b, way); ok != found || !slices.Equal(got, want) {
		t.Errorf("WayAfter(%s, %s, %v) = %v, %v, not %v, %v", brief(a), brief(b), way, got, ok, want, found)
	}
}

func checkAllAfter(t *testing.T, a, b impl.Tree) {
	t.Helper()
	for _, way := range waysOf(a) {
		want, ok := wantAfter(a, b, way)
		checkAfter(t, a, b, way, want, ok)
	}
}

func checkBecomes(t *testing.T, a, b string, way []int, want ...int) {
	t.Helper()
	checkAfter(t, read(a), read(b), way, want, true)
	checkAllAfter(t, read(a), read(b))
}

func checkBecomesNone(t *testing.T, a, b string, way ...int) {
	t.Helper()
	checkAfter(t, read(a), read(b), way, nil, false)
	checkAllAfter(t, read(a), read(b))
}

func checkNext(t *testing.T, p []impl.Comp, list []impl.Draft, way []int, step int, want []int, found bool) {
	t.Helper()
	if got, ok := impl.FocusNext(p, list, way, step); ok != found || !slices.Equal(got, want) {
		t.Errorf("FocusNext(%v, %v, %v, %d) = %v, %v, not %v, %v", p, list, way, step, got, ok, want, found)
	}
}

func checkFocus(t *testing.T, p []impl.Comp, old, list []impl.Draft, way, want []int, found bool) {
	t.Helper()
	if got, ok := impl.FocusAfter(p, old, list, way); ok != found || !slices.Equal(got, want) {
		t.Errorf("FocusAfter(%v, %v, %v, %v) = %v, %v, not %v, %v", p, old, list, way, got, ok, want, found)
	}
}

// otherWays lead to no part of a tree.
func otherWays(tree impl.Tree) [][]int {
	var ways [][]int
	for _, way := range waysOf(tree) {
		for _, n := range []int{math.MinInt, -2, -1, len(partAt(tree, way).Kids), 1 << 32, math.MaxInt} {
			ways = append(ways, append(slices.Clone(way), n), append(slices.Clone(way), n, 0))
		}
	}
	return append(ways, make([]int, 1000))
}

func TestWayAfter(t *testing.T) {
	checkBecomes(t, "'a'", "'b'", nil)
	checkBecomes(t, "(t0)", "(t0 p1=2 'a')", nil)
	checkBecomes(t, "(t0 k3)", "(t0 k3)", nil)
	checkBecomesNone(t, "(t0)", "(t1)")
	checkBecomesNone(t, "(t0 k3)", "(t0 k4)")
	checkBecomesNone(t, "(t0 k3)", "(t0)")
	checkBecomesNone(t, "'a'", "(t0)")
	checkBecomesNone(t, "(t0 'a')", "(t1 'a')", 0)
	// Kids that moved, that are gone, and those ahead of and behind new ones.
	checkBecomes(t, "(t0 (t1 k0) (t1 k1) (t1 k2))", "(t0 (t1 k2) (t1 k0) (t1 k1))", []int{0}, 1)
	checkBecomes(t, "(t0 (t1 k0) (t1 k1) (t1 k2))", "(t0 (t1 k2) (t1 k0) (t1 k1))", []int{2}, 0)
	checkBecomes(t, "(t0 'a' (t1 k1))", "(t0 (t1 k1) 'a')", []int{1}, 0)
	checkBecomes(t, "(t0 'a' (t1))", "(t0 (t2) 'b' (t2) (t1) (t1))", []int{1}, 3)
	checkBecomes(t, "(t0 'a' (t1))", "(t0 (t2) 'b' (t2) (t1) (t1))", []int{0}, 1)
	checkBecomesNone(t, "(t0 (t1) (t1))", "(t0 (t1))", 1)
	checkBecomesNone(t, "(t0 (t1 k0))", "(t0 (t2 k0))", 0)
	checkBecomesNone(t, "(t0 (t1 k0))", "(t0 (t1))", 0)
	checkBecomesNone(t, "(t0 (t1 k0))", "(t0)", 0)
	// Further down, each part on the way must have a partner.
	checkBecomes(t, "(t0 (t1 k0 'x' (t2 'y')) 'z')", "(t0 'z' (t3) (t1 k0 (t2 'y' 'y')))", []int{0, 1, 0}, 2, 0, 0)
	checkBecomesNone(t, "(t0 (t1 k0 'x' (t2 'y')) 'z')", "(t0 'z' (t3) (t1 k0 (t2 'y' 'y')))", 0, 0)
	checkBecomesNone(t, "(t0 (t1 k0 (t2)) (t1 k1 (t2)))", "(t0 (t1 k1 (t2)))", 0, 0)
	checkBecomes(t, "(t0 (t1 k0 (t2)) (t1 k1 (t2)))", "(t0 (t1 k1 (t2)))", []int{1, 0}, 0, 0)
}

func TestWayAfterOfOtherWays(t *testing.T) {
	a, b := read("(t0 (t1 k0 'a') 'b' (t2))"), read("(t0 (t3) (t1 k0 'a' 'c') 'b' 'b' (t4))")
	for _, two := range [][2]impl.Tree{{a, b}, {b, a}, {a, a}} {
		for _, way := range otherWays(two[0]) {
			checkAfter(t, two[0], two[1], way, nil, false)
		}
	}
	for _, bad := range invalidTrees() {
		for _, way := range [][]int{nil, {0}, {0, 0}} {
			checkAfter(t, bad, bad, way, nil, false)
			checkAfter(t, bad, elem(0, -1), way, nil, false)
			checkAfter(t, elem(0, -1), bad, way, nil, false)
		}
	}
}

func TestFocusNext(t *testing.T) {
	p := eventsProg()
	list := impl.DrawDrafts(p, nil)
	ways := [][]int{{0}, {0, 1}, {0, 2, 0}, {0, 2, 1}}
	checkWays(t, p, list, 0, ways...)
	for at, way := range ways {
		checkNext(t, p, list, way, 1, ways[(at+1)%4], true)
		checkNext(t, p, list, way, -1, ways[(at+3)%4], true)
	}
	// From any other way: the whole tree, a text, an element without the event, no part.
	for _, way := range append(otherWays(impl.DraftsTree(p, list)), nil, []int{}, []int{0, 0}, []int{0, 2}, []int{0, 3}) {
		checkNext(t, p, list, way, 1, ways[0], true)
		checkNext(t, p, list, way, -1, ways[3], true)
	}
	for _, step := range []int{math.MinInt, -4, -3, -2, 0, 2, 3, 4, 5, 1 << 32, 1<<32 + 1, math.MaxInt} {
		checkNext(t, p, list, ways[1], step, nil, false)
		checkNext(t, p, list, nil, step, nil, false)
	}
}

func TestFocusNextOfOneAndNone(t *testing.T) {
	on := func(event int) []impl.Comp {
		return []impl.Comp{{Acts: [][]impl.Set{nil}, Body: elemOf(0, eventOf(impl.On{Event: event})(1))}}
	}
	one := on(0)
	for _, step := range []int{1, -1} {
		for _, way := range [][]int{{0, 0}, {0}, nil, {5}} {
			checkNext(t, one, impl.DrawDrafts(one, nil), way, step, []int{0, 0}, true)
		}
		for _, p := range [][]impl.Comp{on(1), on(2), progOf(elemOf(0)), progOf(textNumber(1))} {
			checkNext(t, p, impl.DrawDrafts(p, nil), nil, step, nil, false)
			checkNext(t, p, impl.DrawDrafts(p, nil), []int{0, 0}, step, nil, false)
			checkFocus(t, p, impl.DrawDrafts(p, nil), impl.DrawDrafts(p, nil), []int{0, 0}, nil, false)
		}
	}
}

// focusProg draws, by its first state, elements in turns, with the keys from the second state on down, that have the event 0; by its third state, one more ahead of them that has the event 0 or only the event 1.
func focusProg(many, first, ahead int) []impl.Comp {
	key := steps(state(1), turn(0), do(impl.OpSub))
	button := func(tag, event int) impl.Tmpl { return eventOf(impl.On{Event: event})(tag) }
	return []impl.Comp{{
		States: []impl.Value{num(many), num(first), num(ahead)},
		Acts:   [][]impl.Set{nil},
		Body:   elemOf(0, ifOf(steps(state(2)), button(1, 0), button(1, 1)), eachOf(steps(state(0)), key, button(2, 0))),
	}}
}

func focusStore(many, first, ahead int) []impl.Cell {
	return []impl.Cell{cell(nil, num(many), num(first), num(ahead))}
}

func TestFocusAfter(t *testing.T) {
	p := focusProg(0, 0, 1)
	drafts := func(many, first, ahead int) []impl.Draft {
		return impl.DrawDrafts(p, focusStore(many, first, ahead))
	}
	old := drafts(3, 9, 1)
	checkDrawn(t, p, focusStore(3, 9, 1), "(t0 (t0 (t1) (t2 k9) (t2 k8) (t2 k7)))")
	for at := range 4 {
		checkFocus(t, p, old, old, []int{0, at}, []int{0, at}, true)
	}
	// It moved, it is gone, it has lost its event.
	checkFocus(t, p, old, drafts(4, 10, 1), []int{0, 1}, []int{0, 2}, true)
	checkFocus(t, p, old, drafts(4, 8, 1), []int{0, 2}, []int{0, 1}, true)
	checkFocus(t, p, old, drafts(4, 8, 1), []int{0, 1}, []int{0, 0}, true)
	checkFocus(t, p, old, drafts(4, 8, 0), []int{0, 1}, []int{0, 1}, true)
	checkFocus(t, p, old, drafts(3, 9, 0), []int{0, 0}, []int{0, 1}, true)
	checkFocus(t, p, old, drafts(3, 9, 0), []int{0, 3}, []int{0, 3}, true)
	checkFocus(t, p, old, drafts(0, 9, 0), []int{0, 0}, nil, false)
	// It has the event now, that of a part without it.
	checkFocus(t, p, drafts(1, 9, 0), old, []int{0, 0}, []int{0, 0}, true)
	// What has no event at all, and no part.
	for _, way := range append(otherWays(impl.DraftsTree(p, old)), nil, []int{0}) {
		checkFocus(t, p, old, drafts(3, 9, 1), way, []int{0, 0}, true)
		checkFocus(t, p, old, drafts(3, 9, 0), way, []int{0, 1}, true)
		checkFocus(t, p, old, drafts(0, 9, 0), way, nil, false)
	}
}

func TestFocusOfWhatIsNotValid(t *testing.T) {
	p := eventsProg()
	good := impl.DrawDrafts(p, nil)
	check := func(p []impl.Comp, bad []impl.Draft) {
		t.Helper()
		for _, step := range []int{1, -1} {
			checkNext(t, p, bad, []int{0}, step, nil, false)
		}
		checkFocus(t, p, bad, good, []int{0}, nil, false)
		checkFocus(t, p, good, bad, []int{0}, nil, false)
		checkFocus(t, p, bad, bad, []int{0}, nil, false)
	}
	checkFocus(t, p, good, good, []int{0}, []int{0}, true)
	for _, bad := range [][]impl.Draft{nil, good[1:], good[:2], append(slices.Clone(good), good[2]), {good[0], good[2], good[1]}, impl.DrawDrafts(fullProg(), nil)} {
		check(p, bad)
	}
	changedDrafts(func() []impl.Draft { return impl.DrawDrafts(p, nil) }, func(_ string, bad []impl.Draft) { check(p, bad) })
	for _, q := range append(invalidProgs(), fullProg()) {
		check(q, good)
		check(q, nil)
	}
}

// eachFocus calls with a random program that has elements with the event 0, and two stores.
func eachFocus(many int, visit func(r *rand.Rand, p []impl.Comp, s, next []impl.Cell)) {
	eachLively(many, func(r *rand.Rand, p []impl.Comp, s []impl.Cell) {
		if r.IntN(3) == 0 {
			p = focusProg(2, 9, 1)
			s = focusStore(r.IntN(5), 3+r.IntN(4), r.IntN(2))
			visit(r, p, s, focusStore(r.IntN(5), 3+r.IntN(4), r.IntN(2)))
			return
		}
		visit(r, p, s, livelyStore(r, p))
	})
}

func TestFocusChangesAndSharesNothing(t *testing.T) {
	eachFocus(60, func(_ *rand.Rand, p []impl.Comp, s, next []impl.Cell) {
		old, list := impl.DrawDrafts(p, s), impl.DrawDrafts(p, next)
		tree, other := wantTree(p, s), wantTree(p, next)
		for _, way := range waysOf(tree) {
			copied := slices.Clone(way)
			after, _ := impl.WayAfter(tree, other, way)
			checkUnshared(t, after, tree, other, way)
			forth, _ := impl.FocusNext(p, list, way, 1)
			checkUnshared(t, forth, p, list, way)
			focus, _ := impl.FocusAfter(p, old, list, way)
			checkUnshared(t, focus, p, old, list, way)
			checkSame(t, "the way", way, copied)
		}
		checkSame(t, "the old drafts", old, wantDrafts(p, s))
		checkSame(t, "the drafts", list, wantDrafts(p, next))
		checkSame(t, "the tree", tree, wantTree(p, s))
	})
}

func TestFocusOfRandomPrograms(t *testing.T) {
	found := map[string]int{}
	eachFocus(150, func(r *rand.Rand, p []impl.Comp, s, next []impl.Cell) {
		old, list := impl.DrawDrafts(p, s), impl.DrawDrafts(p, next)
		ways := wantWays(p, s, 0)
		for _, way := range append(waysOf(wantTree(p, s)), []int{r.IntN(3), r.IntN(3) - 1}) {
			for _, step := range []int{1, -1} {
				want, ok := wantNext(ways, way, step)
				checkNext(t, p, old, way, step, want, ok)
			}
			want, ok := wantFocus(p, s, next, way)
			checkFocus(t, p, old, list, way, want, ok)
			found["none"] += truth(!ok).Num
			found["another way"] += truth(ok && !slices.Equal(way, want)).Num
			found["the same way"] += truth(ok && slices.Equal(way, want)).Num
		}
	})
	for what, many := range found {
		if many < 100 {
			t.Errorf("%s: %d", what, many)
		}
	}
}

func TestPromise66APartBecomesOneWithTheSameTagAndKey(t *testing.T) {
	moved := 0
	eachTwoTrees(2000, func(_ *rand.Rand, a, b impl.Tree) {
		checkAllAfter(t, a, b)
		for _, way := range waysOf(a) {
			if after, ok := impl.WayAfter(a, b, way); ok {
				from, to := partAt(a, way), partAt(b, after)
				if from.Tag != to.Tag || from.Key != to.Key || len(after) != len(way) {
					t.Errorf("at %v of %s, %s becomes %s", way, brief(a), brief(from), brief(to))
				}
				moved += truth(!slices.Equal(after, way)).Num
			}
			checkAfter(t, a, a, way, way, true)
		}
	})
	if moved < 1000 {
		t.Errorf("%d parts stand elsewhere", moved)
	}
}

func TestPromise67AStepBackLeadsBack(t *testing.T) {
	many := 0
	eachFocus(400, func(_ *rand.Rand, p []impl.Comp, s, _ []impl.Cell) {
		list := impl.DrawDrafts(p, s)
		for _, way := range impl.EventWays(p, list, 0) {
			for _, step := range []int{1, -1} {
				there, ok := impl.FocusNext(p, list, way, step)
				if !ok {
					t.Errorf("FocusNext(%v, %v, %d) is none", p, way, step)
				}
				checkNext(t, p, list, there, -step, way, true)
				many++
			}
		}
	})
	if many < 500 {
		t.Errorf("%d steps", many)
	}
}

func TestPromise68TheFocusIsWhereItMayBe(t *testing.T) {
	eachFocus(300, func(_ *rand.Rand, p []impl.Comp, s, next []impl.Cell) {
		old, list := impl.DrawDrafts(p, s), impl.DrawDrafts(p, next)
		ways := impl.EventWays(p, list, 0)
		for _, way := range waysOf(wantTree(p, s)) {
			if focus, ok := impl.FocusAfter(p, old, list, way); ok != (len(ways) > 0) || ok && wantPlace(ways, focus) < 0 {
				t.Errorf("FocusAfter(%v, %v, %v, %v) = %v, %v", p, old, list, way, focus, ok)
			}
		}
	})
}

func TestPromise110AroundAllThatMayHaveItTheFocusComesBack(t *testing.T) {
	eachFocus(120, func(_ *rand.Rand, p []impl.Comp, s, _ []impl.Cell) {
		list := impl.DrawDrafts(p, s)
		ways := impl.EventWays(p, list, 0)
		for _, step := range []int{1, -1} {
			for _, way := range ways {
				at := way
				var seen [][]int
				for range ways {
					at, _ = impl.FocusNext(p, list, at, step)
					seen = append(seen, at)
				}
				slices.SortFunc(seen, slices.Compare[[]int])
				if !slices.Equal(at, way) || !same(seen, ways) {
					t.Errorf("from %v, by %d, the focus comes to %v, by way of %v", way, step, at, seen)
				}
			}
		}
	})
}
