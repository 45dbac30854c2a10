package tests

import (
	"math/rand/v2"
	"slices"
	"testing"

	"loop.example/drawnanew/impl"
)

// storeOf is a store of one number.
func storeOf(n int) []impl.Cell { return []impl.Cell{cell(nil, num(n))} }

// storesOf are stores of one number each.
func storesOf(list ...int) [][]impl.Cell {
	var stores [][]impl.Cell
	for _, n := range list {
		stores = append(stores, storeOf(n))
	}
	return stores
}

func histOf(now int, back, ahead [][]impl.Cell) impl.Hist {
	return impl.Hist{Now: storeOf(now), Back: back, Ahead: ahead}
}

// pile is the tests' own history: all stores in a row, and which of them is now.
type pile struct {
	stores [][]impl.Cell
	now    int
}

func pileOf(h impl.Hist) pile {
	ahead := slices.Clone(h.Ahead)
	slices.Reverse(ahead)
	return pile{stores: slices.Concat(h.Back, [][]impl.Cell{h.Now}, ahead), now: len(h.Back)}
}

func (p pile) hist() impl.Hist {
	ahead := slices.Clone(p.stores[p.now+1:])
	slices.Reverse(ahead)
	return impl.Hist{Now: p.stores[p.now], Back: p.stores[:p.now], Ahead: ahead}
}

func wantHist(h impl.Hist, list []impl.Update) impl.Hist {
	next := wantRun(h.Now, list)
	if same(next, h.Now) {
		return h
	}
	p := pileOf(h)
	p.stores = append(slices.Clone(p.stores[:p.now+1]), next)
	p.now++
	if p.now > 6 {
		p = pile{p.stores[1:], 6}
	}
	return p.hist()
}

func checkHist(t *testing.T, what string, h impl.Hist, want bool) {
	t.Helper()
	if impl.HistOk(h) != want {
		t.Errorf("%s: HistOk(%v) is %v", what, h, !want)
	}
	if want {
		checkSame(t, what+": HistDo of none", impl.HistDo(h, nil), h)
		checkBackAndForth(t, h)
		return
	}
	for _, list := range [][]impl.Update{nil, {added(1, 0)}} {
		checkSame(t, what+": HistDo", impl.HistDo(h, list), impl.Hist{})
	}
	checkNoStep(t, impl.HistUndo, h)
	checkNoStep(t, impl.HistRedo, h)
}

// checkBackAndForth checks a step back and one ahead from a valid history.
func checkBackAndForth(t *testing.T, h impl.Hist) {
	t.Helper()
	p := pileOf(h)
	checkStep(t, impl.HistUndo, h, pile{p.stores, p.now - 1})
	checkStep(t, impl.HistRedo, h, pile{p.stores, p.now + 1})
}

func checkStep(t *testing.T, step func(h impl.Hist) (impl.Hist, bool), h impl.Hist, want pile) {
	t.Helper()
	if want.now < 0 || want.now == len(want.stores) {
		checkNoStep(t, step, h)
		return
	}
	if got, ok := step(h); !ok || !same(got, want.hist()) {
		t.Errorf("a step from %v leads to %v, %v, not to %v", h, got, ok, want.hist())
	}
}

func checkNoStep(t *testing.T, step func(h impl.Hist) (impl.Hist, bool), h impl.Hist) {
	t.Helper()
	if got, ok := step(h); ok || !same(got, impl.Hist{}) {
		t.Errorf("a step from %v leads to %v, %v", h, got, ok)
	}
}

func checkHistDone(t *testing.T, h impl.Hist, list []impl.Update, want impl.Hist) {
	t.Helper()
	if got := impl.HistDo(h, list); !same(got, want) {
		t.Errorf("HistDo(%v, %v) = %v, not %v", h, list, got, want)
	}
	if !same(want, wantHist(h, list)) {
		t.Errorf("the tests' own history is %v, not %v", wantHist(h, list), want)
	}
}

func TestHistoryConstants(t *testing.T) {
	if impl.MaxBack != 6 {
		t.Errorf("MaxBack is %d", impl.MaxBack)
	}
}

func TestHistOk(t *testing.T) {
	checkHist(t, "nothing", impl.Hist{}, true)
	for back := range 9 {
		for ahead := range 9 {
			h := histOf(9, storesOf(1, 2, 3, 4, 5, 6, 7, 8)[:back], storesOf(11, 12, 13, 14, 15, 16, 17, 18)[:ahead])
			checkHist(t, "stores", h, back+ahead <= 6)
		}
	}
	for _, bad := range invalidStores() {
		for at := range 3 {
			checkHist(t, "Now", impl.Hist{Now: bad, Back: storesOf(1, 2), Ahead: storesOf(3)}, false)
			back, ahead := storesOf(1, 2, 3), storesOf(4, 5, 6)
			back[at] = bad
			checkHist(t, "Back", histOf(9, back, ahead), false)
			checkHist(t, "Ahead", histOf(9, ahead, back), false)
		}
	}
	full := fullStore(200)
	checkHist(t, "full stores", impl.Hist{Now: full, Back: slices.Repeat([][]impl.Cell{full}, 3), Ahead: slices.Repeat([][]impl.Cell{nil}, 3)}, true)
	checkHist(t, "the same stores", histOf(1, storesOf(1, 1), storesOf(1)), true)
}

func TestHistDo(t *testing.T) {
	add := []impl.Update{added(1, 0)}
	checkHistDone(t, histOf(5, nil, nil), add, histOf(6, storesOf(5), nil))
	checkHistDone(t, histOf(5, storesOf(3, 4), nil), add, histOf(6, storesOf(3, 4, 5), nil))
	// A new step forgets what is ahead, and the first store back if there are too many.
	checkHistDone(t, histOf(5, storesOf(4), storesOf(7, 6)), add, histOf(6, storesOf(4, 5), nil))
	checkHistDone(t, histOf(5, nil, storesOf(1, 2, 3, 4, 7, 6)), add, histOf(6, storesOf(5), nil))
	checkHistDone(t, histOf(9, storesOf(1, 2, 3, 4, 5), storesOf(7)), add, histOf(10, storesOf(1, 2, 3, 4, 5, 9), nil))
	checkHistDone(t, histOf(9, storesOf(1, 2, 3, 4, 5, 6), nil), add, histOf(10, storesOf(2, 3, 4, 5, 6, 9), nil))
	// Updates that change nothing, or that change the store and back.
	for _, list := range [][]impl.Update{nil, {}, {added(0, 1)}, {times(1, 2)}, {added(3, 0), added(-3, 1)}, {setTo(place(slot(0, 0)), 0, 0, one()...)}, {setTo(nil, 2, 0, one()...)}, {setTo(nil, 0, 0, number(5)...)}} {
		for _, h := range []impl.Hist{histOf(5, storesOf(3), storesOf(7, 6)), histOf(5, nil, nil), histOf(5, storesOf(1, 2, 3, 4, 5, 6), nil)} {
			checkHistDone(t, h, list, h)
		}
		checkHistDone(t, impl.Hist{}, list, impl.Hist{})
	}
	// Other states, with as many cells, are another store.
	h := impl.Hist{Now: []impl.Cell{cell(nil, num(1), num(2)), cell(place(slot(0, 1)), none())}}
	checkHistDone(t, h, []impl.Update{setTo(place(slot(0, 1)), 0, -1, constant(text(""))...)}, impl.Hist{Now: []impl.Cell{h.Now[0], cell(place(slot(0, 1)), text(""))}, Back: [][]impl.Cell{h.Now}})
	// A store that is now may be one of those back.
	checkHistDone(t, histOf(5, storesOf(6), nil), add, histOf(6, storesOf(6, 5), nil))
}

func TestHistDoOfMaxUpdates(t *testing.T) {
	for _, many := range []int{39, 40} {
		checkHistDone(t, histOf(5, nil, nil), slices.Repeat([]impl.Update{added(1, 0)}, many), histOf(5+many, storesOf(5), nil))
	}
	for _, list := range invalidUpdateLists() {
		checkSame(t, "HistDo", impl.HistDo(histOf(5, storesOf(4), storesOf(6)), list), impl.Hist{})
		checkSame(t, "HistDo", impl.HistDo(impl.Hist{}, list), impl.Hist{})
	}
}

func TestHistUndoAndRedo(t *testing.T) {
	h := histOf(3, storesOf(1, 2), storesOf(5, 4))
	check := func(step func(h impl.Hist) (impl.Hist, bool), from, to impl.Hist) {
		t.Helper()
		if got, ok := step(from); !ok || !same(got, to) {
			t.Errorf("a step from %v leads to %v, %v, not to %v", from, got, ok, to)
		}
	}
	check(impl.HistUndo, h, histOf(2, storesOf(1), storesOf(5, 4, 3)))
	check(impl.HistRedo, h, histOf(4, storesOf(1, 2, 3), storesOf(5)))
	check(impl.HistUndo, histOf(2, storesOf(1), nil), histOf(1, nil, storesOf(2)))
	check(impl.HistRedo, histOf(1, nil, storesOf(2)), histOf(2, storesOf(1), nil))
	// MaxBack steps and more, back and forth.
	h = histOf(0, nil, nil)
	for range 9 {
		h = impl.HistDo(h, []impl.Update{added(1, 0)})
	}
	checkSame(t, "the history", h, histOf(9, storesOf(3, 4, 5, 6, 7, 8), nil))
	for _, step := range []func(h impl.Hist) (impl.Hist, bool){impl.HistUndo, impl.HistRedo} {
		p := pileOf(h)
		for range 6 {
			checkBackAndForth(t, h)
			h, _ = step(h)
		}
		checkNoStep(t, step, h)
		checkSame(t, "all stores", pileOf(h).stores, p.stores)
	}
	checkSame(t, "the history", h, histOf(9, storesOf(3, 4, 5, 6, 7, 8), nil))
	checkNoStep(t, impl.HistUndo, impl.Hist{})
	checkNoStep(t, impl.HistRedo, impl.Hist{})
	checkNoStep(t, impl.HistUndo, histOf(1, nil, storesOf(2)))
	checkNoStep(t, impl.HistRedo, histOf(1, storesOf(2), nil))
}

// randomHist returns a random valid history, many stores of which differ in a few states.
func randomHist(r *rand.Rand) impl.Hist {
	s := randomStore(r)
	h := impl.Hist{Now: s}
	for range r.IntN(7) {
		other := impl.StoreRun(s, randomUpdates(r, s, 3))
		if r.IntN(2) == 0 {
			h.Back = append(h.Back, other)
		} else {
			h.Ahead = append(h.Ahead, other)
		}
	}
	return h
}

func eachHist(many int, visit func(r *rand.Rand, h impl.Hist, list []impl.Update)) {
	r := rand.New(rand.NewPCG(29, 20))
	for range many {
		h := randomHist(r)
		visit(r, h, randomUpdates(r, h.Now, 6))
	}
}

func TestHistoriesChangeAndShareNothing(t *testing.T) {
	eachHist(400, func(_ *rand.Rand, h impl.Hist, list []impl.Update) {
		// With spare capacity that a step might write to.
		h.Back = append(make([][]impl.Cell, 0, 9), h.Back...)
		h.Ahead = append(make([][]impl.Cell, 0, 9), h.Ahead...)
		want := pileOf(h).hist()
		done := impl.HistDo(h, list)
		checkUnshared(t, done, h, list)
		for _, step := range []func(h impl.Hist) (impl.Hist, bool){impl.HistUndo, impl.HistRedo} {
			next, _ := step(h)
			checkUnshared(t, next, h)
		}
		checkUnshared(t, impl.HistDo(h, nil), h)
		checkSame(t, "the history", h, want)
		checkSame(t, "spare capacity", h.Back[:9][len(h.Back):], make([][]impl.Cell, 9-len(h.Back)))
		checkSame(t, "spare capacity", h.Ahead[:9][len(h.Ahead):], make([][]impl.Cell, 9-len(h.Ahead)))
	})
	// One store in several places.
	s := storeOf(1)
	h := impl.Hist{Now: s, Back: [][]impl.Cell{s, s}, Ahead: [][]impl.Cell{s}}
	checkUnshared(t, impl.HistDo(h, nil), h)
	checkUnshared(t, impl.HistDo(h, []impl.Update{added(1, 0)}), h)
	back, _ := impl.HistUndo(h)
	checkUnshared(t, back, h)
}

func TestHistoriesOfRandomSteps(t *testing.T) {
	found := map[bool]int{}
	eachHist(2000, func(_ *rand.Rand, h impl.Hist, list []impl.Update) {
		checkHist(t, "a random history", h, true)
		want := wantHist(h, list)
		checkSame(t, "HistDo", impl.HistDo(h, list), want)
		found[same(want, h)]++
	})
	if found[true] < 200 || found[false] < 200 {
		t.Errorf("%v of the histories stay", found)
	}
}

func TestPromise91WithoutUpdatesAHistoryStays(t *testing.T) {
	eachHist(1000, func(_ *rand.Rand, h impl.Hist, _ []impl.Update) {
		for _, none := range [][]impl.Update{nil, {}} {
			checkSame(t, "HistDo of none", impl.HistDo(h, none), h)
		}
	})
}

func TestPromise92WhatWasDoneIsUndone(t *testing.T) {
	many := 0
	eachHist(2000, func(_ *rand.Rand, h impl.Hist, list []impl.Update) {
		done := impl.HistDo(h, list)
		if !impl.HistOk(done) {
			t.Errorf("HistDo(%v, %v) = %v is not valid", h, list, done)
		}
		if same(done.Now, h.Now) {
			return
		}
		many++
		checkSame(t, "what is now", done.Now, impl.StoreRun(h.Now, list))
		if back, ok := impl.HistUndo(done); !ok || !same(back.Now, h.Now) || !impl.HistOk(back) {
			t.Errorf("HistUndo(%v) = %v, %v, not back to %v", done, back, ok, h.Now)
		}
	})
	if many < 500 {
		t.Errorf("%d stores are other ones", many)
	}
}

func TestPromise93WhatWasUndoneIsRedone(t *testing.T) {
	eachHist(1500, func(_ *rand.Rand, h impl.Hist, list []impl.Update) {
		for _, from := range []impl.Hist{h, impl.HistDo(h, list)} {
			if back, ok := impl.HistUndo(from); ok {
				again, ok := impl.HistRedo(back)
				if !ok || !same(again, from) || !impl.HistOk(back) {
					t.Errorf("HistRedo(%v) = %v, %v, not %v", back, again, ok, from)
				}
			} else if len(from.Back) > 0 {
				t.Errorf("HistUndo(%v) is none", from)
			}
		}
	})
}

func TestPromise94WhatWasRedoneIsUndone(t *testing.T) {
	eachHist(1500, func(_ *rand.Rand, h impl.Hist, _ []impl.Update) {
		if next, ok := impl.HistRedo(h); ok {
			again, ok := impl.HistUndo(next)
			if !ok || !same(again, h) || !impl.HistOk(next) {
				t.Errorf("HistUndo(%v) = %v, %v, not %v", next, again, ok, h)
			}
		} else if len(h.Ahead) > 0 {
			t.Errorf("HistRedo(%v) is none", h)
		}
	})
}
