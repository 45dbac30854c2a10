package tests

import (
	"math"
	"math/rand/v2"
	"slices"
	"testing"

	"loop.example/drawnanew/impl"
)

func gone(w ...impl.Slot) impl.Effect { return impl.Effect{Kind: impl.EffectGone, Place: w} }

func isNew(w ...impl.Slot) impl.Effect { return impl.Effect{Kind: impl.EffectNew, Place: w} }

func again(w ...impl.Slot) impl.Effect { return impl.Effect{Kind: impl.EffectAgain, Place: w} }

// wantEffects is told by looking for each place among the other drafts, the first one first, and turned round.
func wantEffects(old, list []impl.Draft) []impl.Effect {
	in := func(list []impl.Draft, d impl.Draft) int {
		return slices.IndexFunc(list, func(o impl.Draft) bool { return slices.Equal(o.Call.Place, d.Call.Place) })
	}
	var told []impl.Effect
	for _, d := range list {
		if at := in(old, d); at < 0 {
			told = append(told, isNew(d.Call.Place...))
		} else if !same(old[at], d) {
			told = append(told, again(d.Call.Place...))
		}
	}
	for _, d := range old {
		if in(list, d) < 0 {
			told = append(told, gone(d.Call.Place...))
		}
	}
	slices.Reverse(told)
	return told
}

func wantRootEffects(p []impl.Comp, list []impl.Turn) []impl.Effect {
	var told []impl.Effect
	var old []impl.Draft
	for _, drafts := range play(p, list).shown {
		told = append(told, wantEffects(old, drafts)...)
		old = drafts
	}
	return told
}

func wantLive(list []impl.Effect) ([][]impl.Slot, bool) {
	live := [][]impl.Slot{}
	for _, e := range list {
		at := slices.IndexFunc(live, func(w []impl.Slot) bool { return slices.Equal(w, e.Place) })
		switch {
		case !impl.PlaceOk(e.Place) || e.Kind < 0 || e.Kind > 2 || (at < 0) != (e.Kind == impl.EffectNew):
			return nil, false
		case e.Kind == impl.EffectNew:
			live = append(live, e.Place)
		case e.Kind == impl.EffectGone:
			live = slices.Delete(live, at, at+1)
		}
	}
	return live, len(list) <= 400
}

func checkEffects(t *testing.T, p []impl.Comp, old, list []impl.Draft, want ...impl.Effect) {
	t.Helper()
	if got := impl.EffectsOf(p, old, list); !same(got, want) {
		t.Errorf("EffectsOf(%v, %v, %v) = %v, not %v", p, old, list, got, want)
	}
}

func checkLive(t *testing.T, list []impl.Effect, want ...[]impl.Slot) {
	t.Helper()
	if live, ok := impl.EffectsLive(list); !ok || !same(live, want) {
		t.Errorf("EffectsLive(%v) = %v, %v, not %v", list, live, ok, want)
	}
}

func checkNotLive(t *testing.T, list ...impl.Effect) {
	t.Helper()
	if live, ok := impl.EffectsLive(list); ok || len(live) > 0 {
		t.Errorf("EffectsLive(%v) = %v, %v", list, live, ok)
	}
}

func checkTold(t *testing.T, p []impl.Comp, list []impl.Turn) []impl.Effect {
	t.Helper()
	want := wantRootEffects(p, list)
	want = want[:min(len(want), 400)]
	told := impl.RootEffects(p, list)
	if !same(told, want) {
		t.Errorf("RootEffects(%v, %v) = %v, not %v", p, list, told, want)
	}
	return told
}

// nestProg has, by its first state, turns with the keys 10 and more, or the other way round, each of a component that calls another one by its own state.
func nestProg() []impl.Comp {
	p := rowOf(func(call impl.Tmpl) impl.Tmpl { return call })
	p[0].States = append(p[0].States, num(2))
	p[0].Body.Kids[1].Args = [][]impl.Step{steps(state(1))}
	p[1].Body = ifOf(steps(state(0)), callOf(2), textNumber(0))
	return append(p, impl.Comp{States: []impl.Value{num(1)}, Body: textOf(steps(state(0)))})
}

func inNest(key int) []impl.Slot { return place(slot(0, 0), slot(1, 0), slot(0, 4+key)) }

func belowNest(key int) []impl.Slot { return append(inNest(key), slot(0, 0), slot(0, 0)) }

func TestEffectConstants(t *testing.T) {
	got := []int{impl.MaxTold, impl.EffectGone, impl.EffectNew, impl.EffectAgain}
	if !slices.Equal(got, []int{400, 0, 1, 2}) {
		t.Errorf("the constants are %v", got)
	}
}

func TestEffectsOf(t *testing.T) {
	p := nestProg()
	with := func(turned, many int, cells ...impl.Cell) []impl.Draft {
		return impl.DrawDrafts(p, append([]impl.Cell{cell(nil, num(turned), num(many))}, cells...))
	}
	old := with(0, 2)
	if len(old) != 5 {
		t.Fatalf("DrawDrafts = %v", old)
	}
	checkEffects(t, p, old, with(0, 2))
	checkEffects(t, p, old, with(0, 3), isNew(belowNest(12)...), isNew(inNest(12)...), again())
	checkEffects(t, p, with(0, 3), old, gone(belowNest(12)...), gone(inNest(12)...), again())
	checkEffects(t, p, old, with(0, 0), gone(belowNest(11)...), gone(inNest(11)...), gone(belowNest(10)...), gone(inNest(10)...), again())
	checkEffects(t, p, with(0, 0), old, isNew(belowNest(11)...), isNew(inNest(11)...), isNew(belowNest(10)...), isNew(inNest(10)...), again())
	// A component in one that is drawn again, and one within it that goes.
	off := cell(inNest(10), num(0))
	checkEffects(t, p, old, with(0, 2, off), gone(belowNest(10)...), again(inNest(10)...))
	checkEffects(t, p, old, with(0, 2, cell(inNest(10), num(7))), again(inNest(10)...))
	checkEffects(t, p, old, with(0, 2, cell(belowNest(11), num(7))), again(belowNest(11)...))
	checkEffects(t, p, with(0, 2, off), with(0, 3), isNew(belowNest(12)...), isNew(inNest(12)...), isNew(belowNest(10)...), again(inNest(10)...), again())
	// Keys change places: the components are where they were.
	checkEffects(t, p, with(0, 4), with(1, 4), again())
	checkEffects(t, p, with(0, 2), with(1, 3), gone(belowNest(10)...), gone(inNest(10)...), isNew(belowNest(12)...), isNew(inNest(12)...), isNew(belowNest(13)...), isNew(inNest(13)...), again())
}

func TestEffectsOfEachPartOfADraft(t *testing.T) {
	// Props alone, gifts alone, and states alone make another draft.
	p := []impl.Comp{
		{States: []impl.Value{num(1), num(2)}, Body: giveOf(0, steps(state(1)), callOf(1, steps(state(0))), callOf(1, one()))},
		{Props: 1, States: []impl.Value{num(3)}, Body: textOf(one())},
	}
	first, second := place(slot(0, 0), slot(0, 0)), place(slot(0, 0), slot(1, 0))
	old := impl.DrawDrafts(p, nil)
	checkEffects(t, p, old, impl.DrawDrafts(p, []impl.Cell{cell(nil, num(7), num(2))}), again(first...), again())
	checkEffects(t, p, old, impl.DrawDrafts(p, []impl.Cell{cell(nil, num(1), num(7))}), again(second...), again(first...), again())
	checkEffects(t, p, old, impl.DrawDrafts(p, []impl.Cell{cell(second, num(7))}), again(second...))
}

func TestEffectsOfDraftsThatAreNotValid(t *testing.T) {
	p := draftsProg()
	good := impl.DrawDrafts(p, nil)
	lists := [][]impl.Draft{nil, good[1:], good[:4], append(slices.Clone(good), good[4]), impl.DrawDrafts(fullProg(), nil)}
	for _, bad := range lists {
		checkEffects(t, p, bad, good)
		checkEffects(t, p, good, bad)
		checkEffects(t, p, bad, bad)
	}
	changedDrafts(func() []impl.Draft { return impl.DrawDrafts(p, nil) }, func(_ string, bad []impl.Draft) {
		checkEffects(t, p, bad, good)
		checkEffects(t, p, good, bad)
	})
	other := impl.DrawDrafts(p, []impl.Cell{cell(nil, num(7))})
	checkEffects(t, p, good, other, again())
	for _, q := range append(invalidProgs(), fullProg()) {
		checkEffects(t, q, good, other)
	}
}

func TestRootEffects(t *testing.T) {
	p := nestProg()
	set := func(at, n, lane int) impl.Turn { return posted(setTo(nil, at, lane, number(n)...)) }
	first := []impl.Effect{isNew(belowNest(11)...), isNew(inNest(11)...), isNew(belowNest(10)...), isNew(inNest(10)...), isNew()}
	check := func(list []impl.Turn, more ...impl.Effect) {
		t.Helper()
		checkSame(t, "RootEffects", impl.RootEffects(p, list), append(slices.Clone(first), more...))
		checkTold(t, p, list)
	}
	check(nil)
	check(turns(flushed()))
	check(turns(set(1, 1, 0)))
	check(turns(set(1, 1, 0), working(2)))
	check(turns(set(1, 1, 0), working(3)), gone(belowNest(11)...), gone(inNest(11)...), again())
	check(turns(set(1, 2, 0), flushed()))
	check(turns(posted(setTo(nil, 2, 0, one()...)), flushed()))
	// Twice: each time by what was shown ahead of it.
	check(turns(set(0, 1, 1), set(1, 0, 0), flushed()),
		gone(belowNest(11)...), gone(inNest(11)...), gone(belowNest(10)...), gone(inNest(10)...), again(), again())
	// A work that is thrown away tells nothing.
	check(turns(set(0, 1, 1), working(3), set(1, 0, 0), working(1)), gone(belowNest(11)...), gone(inNest(11)...), gone(belowNest(10)...), gone(inNest(10)...), again())
}

func TestRootEffectsOfMaxTold(t *testing.T) {
	// Components in turns in turns.
	p := []impl.Comp{
		{States: []impl.Value{num(4)}, Body: eachOf(steps(state(0)), nil, eachOf(number(4), nil, callOf(1)))},
		{Body: elemOf(0)},
	}
	set := func(n int) []impl.Turn { return turns(posted(setTo(nil, 0, 0, number(n)...)), flushed()) }
	list := slices.Concat(slices.Repeat(slices.Concat(set(0), set(4)), 11), set(3), set(4))
	if all := wantRootEffects(p, list); len(all) < 400 {
		t.Fatalf("%d effects are told", len(all))
	}
	for many := range len(list) + 1 {
		told := checkTold(t, p, list[:many])
		all := wantRootEffects(p, list[:many])
		live, ok := impl.EffectsLive(told)
		if _, want := wantLive(all); len(all) <= 400 && (!ok || !want || len(live) != len(play(p, list[:many]).root.Drafts)) {
			t.Errorf("EffectsLive of %d effects = %v, %v", len(all), live, ok)
		}
	}
	if told := impl.RootEffects(p, list); len(told) != 400 {
		t.Errorf("%d effects are told", len(told))
	}
}

func TestRootEffectsOfWhatIsNotValid(t *testing.T) {
	for _, x := range invalidTurns() {
		checkSame(t, "RootEffects", impl.RootEffects(listProg(), turns(x)), []impl.Effect{})
		checkSame(t, "RootEffects", impl.RootEffects(listProg(), turns(flushed(), x)), []impl.Effect{})
	}
	for _, p := range invalidProgs() {
		checkSame(t, "RootEffects", impl.RootEffects(p, nil), []impl.Effect{})
	}
	checkSame(t, "RootEffects", impl.RootEffects(listProg(), slices.Repeat(turns(flushed()), 61)), []impl.Effect{})
	checkTold(t, listProg(), slices.Repeat(turns(flushed()), 60))
}

func TestEffectsLive(t *testing.T) {
	a, b, c := place(slot(0, 1)), place(slot(0, 1), slot(2, 0)), place(slot(1, 0))
	checkLive(t, nil)
	checkLive(t, []impl.Effect{})
	checkLive(t, []impl.Effect{isNew()}, nil)
	checkLive(t, []impl.Effect{isNew(c...), isNew(a...), isNew(b...), isNew()}, c, a, b, nil)
	checkLive(t, []impl.Effect{isNew(c...), isNew(a...), gone(c...), isNew(b...), isNew(c...)}, a, b, c)
	checkLive(t, []impl.Effect{isNew(c...), again(c...), isNew(a...), again(c...), gone(a...), again(c...)}, c)
	checkLive(t, []impl.Effect{isNew(a...), gone(a...), isNew(a...), gone(a...)})
	checkNotLive(t, isNew(a...), isNew(a...))
	checkNotLive(t, isNew(), isNew())
	checkNotLive(t, isNew(a...), isNew(b...), isNew(a...))
	checkNotLive(t, gone(a...))
	checkNotLive(t, isNew(a...), gone(a...), gone(a...))
	checkNotLive(t, isNew(a...), gone(b...))
	checkNotLive(t, isNew(b...), gone(a...))
	checkNotLive(t, again(a...))
	checkNotLive(t, isNew(a...), gone(a...), again(a...))
	checkNotLive(t, isNew(b...), again(a...))
	// A wrong one among right ones.
	checkNotLive(t, isNew(a...), again(b...), isNew(b...))
	for _, kind := range []int{math.MinInt, -2, -1, 3, 4, math.MaxInt} {
		checkNotLive(t, impl.Effect{Kind: kind})
		checkNotLive(t, isNew(a...), impl.Effect{Kind: kind, Place: a})
		checkNotLive(t, isNew(a...), impl.Effect{Kind: kind, Place: b}, isNew(b...))
	}
	for _, w := range invalidPlaces() {
		checkNotLive(t, isNew(w...))
		checkNotLive(t, isNew(), isNew(w...), gone(w...))
		checkNotLive(t, isNew(w...), gone(w...))
	}
	checkLive(t, []impl.Effect{isNew(deepPlace(20)...), isNew(deepPlace(19)...)}, deepPlace(20), deepPlace(19))
}

func TestEffectsLiveOfMaxTold(t *testing.T) {
	var list []impl.Effect
	for range 300 {
		list = append(list, isNew(), gone())
	}
	checkLive(t, list[:399], nil)
	checkLive(t, list[:400])
	checkNotLive(t, list[:401]...)
	checkNotLive(t, list[:402]...)
	checkNotLive(t, list...)
	list = nil
	var want [][]impl.Slot
	for i := range 400 {
		w := place(slot(i%4, i/4))
		list = append(list, isNew(w...))
		want = append(want, w)
	}
	checkLive(t, list, want...)
	checkNotLive(t, append(list, gone(slot(0, 0)))...)
}

func TestEffectsLiveOfRandomEffects(t *testing.T) {
	r := rand.New(rand.NewPCG(14, 20))
	found := map[bool]int{}
	for range 8000 {
		var list []impl.Effect
		for range r.IntN(12) {
			e := impl.Effect{Kind: r.IntN(3), Place: place(slot(r.IntN(2), r.IntN(2)))}
			// Mostly one that can be.
			if _, ok := wantLive(append(slices.Clone(list), e)); !ok && r.IntN(12) > 0 {
				continue
			}
			list = append(list, e)
		}
		want, ok := wantLive(list)
		found[ok]++
		if live, live2 := impl.EffectsLive(list); live2 != ok || !same(live, want) {
			t.Errorf("EffectsLive(%v) = %v, %v, not %v, %v", list, live, live2, want, ok)
		}
	}
	if found[true] < 500 || found[false] < 500 {
		t.Errorf("%v effects can be", found)
	}
}

func TestEffectsChangeAndShareNothing(t *testing.T) {
	eachScript(150, func(r *rand.Rand, p []impl.Comp, list []impl.Turn) {
		old, drafts := impl.DrawDrafts(p, nil), impl.DrawDrafts(p, livelyStore(r, p))
		told := impl.EffectsOf(p, old, drafts)
		checkUnshared(t, told, p, old, drafts)
		checkSame(t, "the old drafts", old, wantDrafts(p, nil))
		all := impl.RootEffects(p, list)
		checkUnshared(t, all, p, list)
		live, _ := impl.EffectsLive(all)
		checkUnshared(t, live, all)
		checkTold(t, p, list)
	})
	w := append(make([]impl.Slot, 0, 9), slot(1, 1))
	list := []impl.Effect{isNew(w...), isNew(w[:0]...), gone(w...), isNew(w...)}
	live, _ := impl.EffectsLive(list)
	checkUnshared(t, live, list)
	checkSame(t, "the effects", list, []impl.Effect{isNew(w...), isNew(), gone(w...), isNew(w...)})
}

// sorted returns places in order.
func sorted(list [][]impl.Slot) [][]impl.Slot {
	list = slices.Clone(list)
	slices.SortFunc(list, func(a, b []impl.Slot) int { return slices.Compare(flatPlace(a), flatPlace(b)) })
	return list
}

func placesOf(s []impl.Cell) [][]impl.Slot {
	var list [][]impl.Slot
	for _, c := range s {
		list = append(list, c.Place)
	}
	return list
}

func TestPromise49EffectsLeadFromOldPlacesToNewOnes(t *testing.T) {
	found := 0
	eachLively(1500, func(r *rand.Rand, p []impl.Comp, s []impl.Cell) {
		old, list := impl.DrawDrafts(p, s), impl.DrawDrafts(p, livelyStore(r, p))
		told := impl.EffectsOf(p, old, list)
		checkSame(t, "EffectsOf", told, wantEffects(old, list))
		var all []impl.Effect
		for _, d := range old {
			all = append(all, isNew(d.Call.Place...))
		}
		live, ok := impl.EffectsLive(append(all, told...))
		if !ok || !same(sorted(live), placesOf(cellsOf(list))) {
			t.Errorf("EffectsLive(%v, %v) = %v, %v, not %v", all, told, live, ok, placesOf(cellsOf(list)))
		}
		found += truth(len(told) > 1 && told[0].Kind == impl.EffectGone).Num
	})
	if found < 100 {
		t.Errorf("%d drafts tell that something is gone", found)
	}
}

func TestPromise50AllThatIsToldLeadsToWhatIsShown(t *testing.T) {
	eachScript(1000, func(_ *rand.Rand, p []impl.Comp, list []impl.Turn) {
		told := checkTold(t, p, list)
		if len(wantRootEffects(p, list)) > 400 {
			return
		}
		live, ok := impl.EffectsLive(told)
		if want := placesOf(impl.RootStore(p, list)); !ok || !same(sorted(live), want) {
			t.Errorf("EffectsLive(%v) = %v, %v, not %v", told, live, ok, want)
		}
	})
}

func TestPromise51TheFirstEffectsAloneLeadToSomePlacesToo(t *testing.T) {
	eachScript(400, func(_ *rand.Rand, p []impl.Comp, list []impl.Turn) {
		told := impl.RootEffects(p, list)
		for len(told) > 0 {
			told = told[:len(told)-1]
			live, ok := impl.EffectsLive(told)
			if want, _ := wantLive(told); !ok || !same(live, want) {
				t.Errorf("EffectsLive(%v) = %v, %v, not %v", told, live, ok, want)
			}
		}
	})
}
