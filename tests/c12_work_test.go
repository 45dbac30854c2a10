package tests

import (
	"math"
	"math/rand/v2"
	"slices"
	"testing"

	"loop.example/drawnanew/impl"
)

// wantWork is the work behind so many units: of what is drawn anew, the first ones are done, and of the others those are open that the first ones call.
func wantWork(p []impl.Comp, old []impl.Draft, s []impl.Cell, n int) impl.Work {
	list := wantDrafts(p, s)
	n = min(n, len(list))
	w := impl.Work{Store: s, Old: old, Done: list[:n], Many: wantMany(old, list[:n])}
	calls := []impl.Call{bareCall()}
	for _, d := range w.Done {
		calls = append(calls, d.Calls...)
	}
	for _, d := range list[n:] {
		if slices.ContainsFunc(calls, func(c impl.Call) bool { return slices.Equal(c.Place, d.Call.Place) }) {
			w.Open = append(w.Open, d.Call)
		}
	}
	return w
}

func checkWorkOk(t *testing.T, what string, p []impl.Comp, w impl.Work, want bool) {
	t.Helper()
	if impl.WorkOk(p, w) != want {
		t.Errorf("%s: WorkOk(%v, %v) is %v", what, p, w, !want)
	}
	if want {
		return
	}
	for _, n := range []int{0, 1, 300} {
		if out := impl.WorkSteps(p, w, n); !same(out, impl.Work{}) {
			t.Errorf("%s: WorkSteps(%v, %v, %d) = %v", what, p, w, n, out)
		}
	}
	if tree, ok := impl.WorkTree(p, w); ok || !same(tree, impl.Tree{}) {
		t.Errorf("%s: WorkTree(%v, %v) = %s, %v", what, p, w, brief(tree), ok)
	}
}

func checkSteps(t *testing.T, p []impl.Comp, w impl.Work, n int, want impl.Work) {
	t.Helper()
	if out := impl.WorkSteps(p, w, n); !same(out, want) {
		t.Errorf("WorkSteps(%v, %v, %d) = %v, not %v", p, w, n, out, want)
	}
}

func checkWorkTree(t *testing.T, p []impl.Comp, w impl.Work) {
	t.Helper()
	want := impl.Tree{}
	if len(w.Open) == 0 {
		want = wantTree(p, w.Store)
	}
	if tree, ok := impl.WorkTree(p, w); ok != (len(w.Open) == 0) || !same(tree, want) {
		t.Errorf("WorkTree(%v, %v) = %s, %v, not %s", p, w, brief(tree), ok, brief(want))
	}
}

// eachWork calls with random programs, old drafts of one store, and another store.
func eachWork(many int, visit func(r *rand.Rand, p []impl.Comp, old []impl.Draft, s []impl.Cell)) {
	eachLively(many, func(r *rand.Rand, p []impl.Comp, s []impl.Cell) {
		visit(r, p, wantDrafts(p, s), livelyStore(r, p))
	})
}

func TestWorkConstants(t *testing.T) {
	if impl.MaxTurns != 300 {
		t.Errorf("MaxTurns is %d", impl.MaxTurns)
	}
}

func TestWorkNew(t *testing.T) {
	p := draftsProg()
	old := impl.DrawDrafts(p, nil)
	s := []impl.Cell{cell(nil, num(9)), cell(place(slot(3, 3)), num(8), num(7))}
	checkSame(t, "the work", impl.WorkNew(p, old, s), impl.Work{Store: s, Old: old, Open: []impl.Call{bareCall()}})
	checkSame(t, "the work", impl.WorkNew(p, old, nil), impl.Work{Old: old, Open: []impl.Call{bareCall()}})
	for _, bad := range invalidStores() {
		checkSame(t, "the work", impl.WorkNew(p, old, bad), impl.Work{})
	}
	for _, q := range append(invalidProgs(), fullProg()) {
		checkSame(t, "the work", impl.WorkNew(q, old, s), impl.Work{})
		checkSame(t, "the work", impl.WorkNew(q, nil, nil), impl.Work{})
	}
	for _, drafts := range [][]impl.Draft{nil, old[1:], old[:4], {old[0], old[2], old[1], old[3], old[4]}} {
		checkSame(t, "the work", impl.WorkNew(p, drafts, s), impl.Work{})
	}
}

func TestWorkSteps(t *testing.T) {
	p := draftsProg()
	old := impl.DrawDrafts(p, nil)
	for _, s := range [][]impl.Cell{nil, {cell(nil, num(9))}, {cell(old[4].Call.Place, num(8), num(7))}, {cell(nil, num(9)), cell(old[2].Call.Place, num(8), num(7))}} {
		w := impl.WorkNew(p, old, s)
		for n := range 9 {
			checkSteps(t, p, w, n, wantWork(p, old, s, n))
		}
		checkSteps(t, p, w, 299, wantWork(p, old, s, 5))
		checkSteps(t, p, w, 300, wantWork(p, old, s, 5))
		for _, n := range []int{math.MinInt, -300, -2, -1, 301, 302, 1 << 32, math.MaxInt} {
			checkSteps(t, p, w, n, impl.Work{})
			checkSteps(t, p, wantWork(p, old, s, 5), n, impl.Work{})
		}
	}
}

func TestWorkStepByStep(t *testing.T) {
	p := draftsProg()
	old := impl.DrawDrafts(p, nil)
	w := impl.WorkNew(p, old, []impl.Cell{cell(nil, num(9)), cell(old[4].Call.Place, num(8), num(7))})
	open := [][]int{{0}, {1, 3}, {2, 3}, {3}, {4}, {}, {}}
	many := []int{0, 1, 1, 1, 1, 2, 2}
	for n := range open {
		var calls []impl.Call
		for _, i := range open[n] {
			calls = append(calls, old[i].Call)
		}
		checkSame(t, "what is open", w.Open, calls)
		if w.Many != many[n] || len(w.Done) != min(n, 5) {
			t.Errorf("behind %d units, %d drafts are done, and %d of them are new", n, len(w.Done), w.Many)
		}
		checkWorkOk(t, "a work", p, w, true)
		checkWorkTree(t, p, w)
		w = impl.WorkSteps(p, w, 1)
	}
}

func TestWorkThatTakesAllOrNone(t *testing.T) {
	p := bothStates()
	under := place(slot(0, 0), slot(1, 0))
	old := impl.DrawDrafts(p, nil)
	for _, c := range []struct {
		s    []impl.Cell
		many int
	}{{nil, 0}, {[]impl.Cell{cell(nil, num(7), num(7))}, 1}, {[]impl.Cell{cell(under, num(7))}, 1}, {[]impl.Cell{cell(nil, num(7), num(7)), cell(under, num(7))}, 2}} {
		w := impl.WorkSteps(p, impl.WorkNew(p, old, c.s), 300)
		if w.Many != c.many || len(w.Done) != 2 || len(w.Open) != 0 {
			t.Errorf("the work with %v is %v", c.s, w)
		}
		checkWorkTree(t, p, w)
	}
	single := progOf(textOf(one()))
	w := impl.WorkNew(single, impl.DrawDrafts(single, nil), nil)
	checkSteps(t, single, w, 1, wantWork(single, w.Old, nil, 1))
}

func TestWorkOkOfEachChange(t *testing.T) {
	p := draftsProg()
	old := impl.DrawDrafts(p, nil)
	s := []impl.Cell{cell(nil, num(9)), cell(old[2].Call.Place, num(8), num(7))}
	for n := range 6 {
		work := func() impl.Work { return impl.WorkSteps(p, impl.WorkNew(p, old, s), n) }
		change := func(what string, by func(w *impl.Work)) {
			w := work()
			by(&w)
			checkWorkOk(t, what, p, w, false)
		}
		checkWorkOk(t, "a work", p, work(), true)
		for _, many := range []int{math.MinInt, -1, 1, 2, math.MaxInt - 9} {
			change("how many are new", func(w *impl.Work) { w.Many += many })
		}
		change("a call more", func(w *impl.Work) { w.Open = append(w.Open, bareCall()) })
		change("another call", func(w *impl.Work) { w.Open = []impl.Call{{Gifts: bareCall().Gifts, Comp: 1}} })
		change("a draft more", func(w *impl.Work) { w.Done = append(w.Done, old[0]) })
		change("very many drafts", func(w *impl.Work) { w.Done = slices.Repeat(old, 200) })
		change("an old draft less", func(w *impl.Work) { w.Old = w.Old[1:] })
		change("another old draft", func(w *impl.Work) { w.Old[4].Binds[0].Elem = 9 })
		change("old drafts out of order", func(w *impl.Work) { w.Old[1], w.Old[2] = w.Old[2], w.Old[1] })
		change("a store that is not valid", func(w *impl.Work) { w.Store[0], w.Store[1] = w.Store[1], w.Store[0] })
		if n > 0 {
			change("another store", func(w *impl.Work) { w.Store[0].States[0] = num(1) })
			change("a draft less", func(w *impl.Work) { w.Done = w.Done[1:] })
			change("the last draft less", func(w *impl.Work) { w.Done = w.Done[:n-1] })
			changedDrafts(func() []impl.Draft { return work().Done }, func(what string, list []impl.Draft) {
				change("a draft with "+what, func(w *impl.Work) { w.Done = list })
			})
		}
		if n > 1 {
			change("drafts out of order", func(w *impl.Work) { w.Done[n-1], w.Done[n-2] = w.Done[n-2], w.Done[n-1] })
		}
		if n < 5 {
			change("a call less", func(w *impl.Work) { w.Open = w.Open[1:] })
			change("another gift", func(w *impl.Work) { w.Open[0].Gifts[0] = num(77) })
			change("another place", func(w *impl.Work) { w.Open[0].Place = append(w.Open[0].Place, slot(0, 0)) })
		}
		if n == 1 || n == 2 {
			change("calls out of order", func(w *impl.Work) { w.Open[0], w.Open[1] = w.Open[1], w.Open[0] })
		}
	}
}

func TestWorkOkOfOtherPrograms(t *testing.T) {
	p := draftsProg()
	w := impl.WorkNew(p, impl.DrawDrafts(p, nil), nil)
	done := impl.WorkSteps(p, w, 300)
	for _, q := range append(invalidProgs(), fullProg(), bothStates()) {
		checkWorkOk(t, "another program", q, w, false)
		checkWorkOk(t, "another program", q, done, false)
		checkWorkOk(t, "the zero work", q, impl.Work{}, false)
	}
	checkWorkOk(t, "the zero work", p, impl.Work{}, false)
	for _, s := range invalidStores() {
		bad := w
		bad.Store = s
		checkWorkOk(t, "a store that is not valid", p, bad, false)
	}
	// With a cell more that is not drawn the same is drawn.
	done.Store = append(done.Store, cell(place(slot(3, 3))))
	checkWorkOk(t, "a cell that is not drawn", p, done, true)
}

func TestWorkChangesAndSharesNothing(t *testing.T) {
	eachWork(100, func(r *rand.Rand, p []impl.Comp, old []impl.Draft, s []impl.Cell) {
		w := impl.WorkNew(p, old, s)
		checkUnshared(t, w, p, old, s)
		n := r.IntN(4)
		some := impl.WorkSteps(p, w, n)
		// With spare capacity that a unit might write to.
		some.Done = append(make([]impl.Draft, 0, 20), some.Done...)
		some.Open = append(make([]impl.Call, 0, 20), some.Open...)
		all := impl.WorkSteps(p, some, 300)
		checkUnshared(t, some, p, w)
		checkUnshared(t, all, p, some)
		checkUnshared(t, impl.WorkSteps(p, all, 1), p, all)
		tree, _ := impl.WorkTree(p, all)
		checkUnshared(t, tree, p, all)
		checkSame(t, "the first work", w, wantWork(p, old, s, 0))
		checkSame(t, "the second work", some, wantWork(p, old, s, n))
		checkSame(t, "the last work", all, wantWork(p, old, s, 300))
		checkSame(t, "spare capacity", some.Done[:20][len(some.Done):], make([]impl.Draft, 20-len(some.Done)))
	})
}

func TestPromise41ANewWorkHasEverythingAheadOfIt(t *testing.T) {
	eachWork(800, func(_ *rand.Rand, p []impl.Comp, old []impl.Draft, s []impl.Cell) {
		w := impl.WorkNew(p, old, s)
		checkWorkOk(t, "a new work", p, w, true)
		checkSame(t, "the new work", w, impl.Work{Store: s, Old: old, Open: []impl.Call{bareCall()}})
		checkWorkTree(t, p, w)
	})
}

func TestPromise42AValidWorkComesToItsEnd(t *testing.T) {
	eachWork(800, func(r *rand.Rand, p []impl.Comp, old []impl.Draft, s []impl.Cell) {
		w := impl.WorkSteps(p, impl.WorkNew(p, old, s), r.IntN(5))
		checkWorkTree(t, p, w)
		tree, ok := impl.WorkTree(p, impl.WorkSteps(p, w, 300))
		if !ok || !same(tree, impl.DrawTree(p, s)) || !same(tree, wantTree(p, s)) {
			t.Errorf("WorkTree = %s, %v, not %s", brief(tree), ok, brief(wantTree(p, s)))
		}
	})
}

func TestPromise43UnitsMayBeDoneInAnyPieces(t *testing.T) {
	eachWork(500, func(r *rand.Rand, p []impl.Comp, old []impl.Draft, s []impl.Cell) {
		w := impl.WorkNew(p, old, s)
		for n := range 6 {
			want := impl.WorkSteps(p, w, n)
			checkSame(t, "the work", want, wantWork(p, old, s, n))
			if n > 0 {
				checkSteps(t, p, impl.WorkSteps(p, w, n-1), 1, want)
				checkSteps(t, p, impl.WorkSteps(p, w, 1), n-1, want)
			}
		}
		one := w
		for range 1 + r.IntN(12) {
			one = impl.WorkSteps(p, one, 1)
			checkWorkOk(t, "a work behind units", p, one, true)
		}
		checkSteps(t, p, one, 300, impl.WorkSteps(p, w, 300))
	})
}

func TestPromise44WhatAWorkHasDoneAreTheDrafts(t *testing.T) {
	eachWork(800, func(_ *rand.Rand, p []impl.Comp, old []impl.Draft, s []impl.Cell) {
		w := impl.WorkSteps(p, impl.WorkNew(p, old, s), 300)
		checkSame(t, "what is done", w.Done, impl.RedrawDrafts(p, old, s))
		if many := impl.RedrawMany(p, old, s); w.Many != many || len(w.Open) > 0 {
			t.Errorf("%d drafts are new, not %d; %v is open", w.Many, many, w.Open)
		}
	})
}
