package tests

import (
	"math"
	"math/rand/v2"
	"slices"
	"testing"

	"loop.example/drawnanew/impl"
)

// setTo is an update that gives a state the value of a formula.
func setTo(w []impl.Slot, at, lane int, f ...impl.Step) impl.Update {
	return impl.Update{Place: w, State: at, Form: f, Lane: lane}
}

// added is an update of the root that adds a number to its first state.
func added(n, lane int) impl.Update {
	return setTo(nil, 0, lane, state(0), con(num(n)), do(impl.OpAdd))
}

// times is an update of the root that multiplies its first state by a number.
func times(n, lane int) impl.Update {
	return setTo(nil, 0, lane, state(0), con(num(n)), do(impl.OpMul))
}

func wantHas(s []impl.Cell, u impl.Update) bool {
	at := slices.IndexFunc(s, func(c impl.Cell) bool { return slices.Equal(c.Place, u.Place) })
	if at < 0 {
		return false
	}
	many := len(s[at].States)
	for _, x := range u.Form {
		if x.Kind == impl.FormState && x.A >= many {
			return false
		}
	}
	return u.State < many
}

// wantRun does valid updates in a copy of a valid store.
func wantRun(s []impl.Cell, list []impl.Update) []impl.Cell {
	s = slices.Clone(s)
	for _, u := range list {
		for i, c := range s {
			if slices.Equal(c.Place, u.Place) && wantHas(s, u) {
				s[i].States = slices.Clone(c.States)
				s[i].States[u.State] = valueOf(u.Form, impl.Env{States: c.States, Gifts: make([]impl.Value, 2)})
			}
		}
	}
	return s
}

func randomUpdate(r *rand.Rand, s []impl.Cell) impl.Update {
	w := randomPlace(r)
	if len(s) > 0 && r.IntN(8) > 0 {
		w = s[r.IntN(len(s))].Place
	}
	u := setTo(w, r.IntN(3), r.IntN(4)-1, livelyForm(r, 0, 3, 0)...)
	if r.IntN(2) == 0 {
		u.State = 0
		u.Form = livelyForm(r, 0, 1, 0)
	}
	return u
}

func randomUpdates(r *rand.Rand, s []impl.Cell, most int) []impl.Update {
	var list []impl.Update
	for range r.IntN(most + 1) {
		list = append(list, randomUpdate(r, s))
	}
	return list
}

// invalidUpdates are wrong in one thing each.
func invalidUpdates() []impl.Update {
	var list []impl.Update
	for _, w := range invalidPlaces() {
		list = append(list, setTo(w, 0, 0, one()...))
	}
	for _, n := range []int{math.MinInt, -2, -1, 3, 4, 1 << 32, math.MaxInt} {
		list = append(list, setTo(nil, n, 0, one()...), setTo(nil, 0, 0, state(n)))
	}
	for _, n := range []int{math.MinInt, -3, -2, 3, 4, 1 << 32, math.MaxInt} {
		list = append(list, setTo(nil, 0, n, one()...))
	}
	for _, f := range [][]impl.Step{nil, {}, steps(prop(0)), steps(turn(0)), steps(con(num(1)), con(num(1))), steps(do(0)), sums(11), steps(con(num(1001))), steps(use(2))} {
		list = append(list, setTo(nil, 0, 0, f...))
	}
	return list
}

// invalidUpdateLists have an update that is not valid among valid ones, or too many.
func invalidUpdateLists() [][]impl.Update {
	list := [][]impl.Update{slices.Repeat([]impl.Update{added(1, 0)}, 41), slices.Repeat([]impl.Update{added(1, 0)}, 42), slices.Repeat([]impl.Update{added(1, 0)}, 500)}
	for _, u := range invalidUpdates() {
		list = append(list, []impl.Update{u}, []impl.Update{added(1, 0), u}, []impl.Update{u, added(1, 0)})
	}
	return list
}

func checkRun(t *testing.T, s []impl.Cell, list []impl.Update, want []impl.Cell) {
	t.Helper()
	if got := impl.StoreRun(s, list); !same(got, want) {
		t.Errorf("StoreRun(%v, %v) = %v, not %v", s, list, got, want)
	}
}

func checkHas(t *testing.T, s []impl.Cell, u impl.Update, want bool) {
	t.Helper()
	if impl.UpdateHas(s, u) != want {
		t.Errorf("UpdateHas(%v, %v) is %v", s, u, !want)
	}
	if !want && impl.StoreOk(s) && impl.UpdateOk(u) {
		checkRun(t, s, []impl.Update{u}, s)
	}
}

func checkUpdateOk(t *testing.T, u impl.Update, want bool) {
	t.Helper()
	if impl.UpdateOk(u) != want {
		t.Errorf("UpdateOk(%v) is %v", u, !want)
	}
}

func TestUpdateConstants(t *testing.T) {
	if got := []int{impl.MaxLanes, impl.MaxUpdates, impl.LaneDone}; !slices.Equal(got, []int{3, 40, -1}) {
		t.Errorf("the constants are %v", got)
	}
}

func TestUpdateOk(t *testing.T) {
	for n := -5; n <= 5; n++ {
		checkUpdateOk(t, setTo(nil, n, 0, one()...), 0 <= n && n <= 2)
		checkUpdateOk(t, setTo(nil, 0, n, one()...), -1 <= n && n <= 2)
		checkUpdateOk(t, setTo(nil, 2, -1, state(n)), 0 <= n && n <= 2)
		checkUpdateOk(t, setTo(nil, 2, 2, use(n)), 0 <= n && n <= 1)
	}
	for many := range 30 {
		checkUpdateOk(t, setTo(deepPlace(many), 0, 0, one()...), many <= 20)
	}
	for many := 1; many < 15; many += 2 {
		checkUpdateOk(t, setTo(nil, 0, 0, sums(many)...), many <= 9)
	}
	for _, u := range invalidUpdates() {
		checkUpdateOk(t, u, false)
		checkHas(t, []impl.Cell{cell(nil, make([]impl.Value, 3)...)}, u, false)
	}
}

func TestUpdateHas(t *testing.T) {
	w := place(slot(1, 2))
	for many := range 4 {
		s := []impl.Cell{cell(nil, make([]impl.Value, 3)...), cell(w, make([]impl.Value, many)...)}
		for at := range 3 {
			checkHas(t, s, setTo(w, at, 0, one()...), at < many)
			checkHas(t, s, setTo(w, at, impl.LaneDone, one()...), at < many)
			for a := range 3 {
				checkHas(t, s, setTo(w, at, 0, state(a)), at < many && a < many)
				checkHas(t, s, setTo(w, at, 0, state(0), state(a), do(impl.OpAdd)), at < many && a < many)
				checkHas(t, s, setTo(w, at, 0, state(a), state(0), do(impl.OpAdd)), at < many && a < many)
			}
		}
		for _, other := range [][]impl.Slot{place(slot(1, 1)), place(slot(1, 2), slot(0, 0)), place(slot(2, 2)), deepPlace(20)} {
			checkHas(t, s, setTo(other, 0, 0, one()...), false)
		}
		checkHas(t, s, setTo(nil, 2, 2, state(2)), true)
	}
	checkHas(t, nil, added(1, 0), false)
	// One that gives a state the value that it has already changes something, too.
	checkHas(t, []impl.Cell{cell(nil, num(1))}, setTo(nil, 0, 0, state(0)), true)
	for _, s := range invalidStores() {
		checkHas(t, s, setTo(nil, 0, 0, one()...), false)
		checkHas(t, s, setTo(place(slot(0, 1)), 0, 0, one()...), false)
	}
}

func TestStoreRun(t *testing.T) {
	s := func(v ...impl.Value) []impl.Cell { return []impl.Cell{cell(nil, v...), cell(deepPlace(20), num(7))} }
	checkRun(t, s(num(5)), nil, s(num(5)))
	checkRun(t, s(num(5)), []impl.Update{times(2, 0), added(1, 1)}, s(num(11)))
	checkRun(t, s(num(5)), []impl.Update{added(1, 1), times(2, 0)}, s(num(12)))
	checkRun(t, s(num(5)), []impl.Update{added(1, impl.LaneDone)}, s(num(6)))
	checkRun(t, s(num(5)), []impl.Update{setTo(nil, 0, 0, use(1))}, s(none()))
	checkRun(t, s(num(5)), []impl.Update{setTo(nil, 0, 0, use(0), state(0), do(impl.OpJoin))}, s(text("5")))
	checkRun(t, s(num(5)), []impl.Update{added(1000, 0)}, s(none()))
	checkRun(t, s(num(5)), []impl.Update{setTo(nil, 1, 0, one()...), setTo(nil, 0, 0, state(1)), added(3, 0)}, s(num(8)))
	// Each one finds what those ahead of it made.
	swap := []impl.Update{setTo(nil, 2, 0, state(0)), setTo(nil, 0, 0, state(1)), setTo(nil, 1, 0, state(2))}
	checkRun(t, s(num(1), num(2), num(3)), swap, s(num(2), num(1), num(1)))
	both := []impl.Update{setTo(deepPlace(20), 0, 0, one()...), setTo(deepPlace(19), 0, 0, one()...)}
	checkRun(t, s(num(1)), both, []impl.Cell{cell(nil, num(1)), cell(deepPlace(20), num(1))})
}

func TestStoreRunOfMaxUpdates(t *testing.T) {
	s := []impl.Cell{cell(nil, num(0))}
	list := slices.Repeat([]impl.Update{added(1, 0)}, 40)
	checkRun(t, s, list[:39], []impl.Cell{cell(nil, num(39))})
	checkRun(t, s, list, []impl.Cell{cell(nil, num(40))})
	checkRun(t, fullStore(200), list, fullStore(200))
	for _, list := range invalidUpdateLists() {
		checkRun(t, s, list, nil)
		checkRun(t, nil, list, nil)
	}
	for _, bad := range invalidStores() {
		checkRun(t, bad, nil, nil)
		checkRun(t, bad, list[:1], nil)
	}
}

func TestStoreRunOfRandomUpdates(t *testing.T) {
	r := rand.New(rand.NewPCG(10, 20))
	has := 0
	for range 4000 {
		s := randomStore(r)
		list := randomUpdates(r, s, 40)
		for _, u := range list {
			checkUpdateOk(t, u, true)
			checkHas(t, s, u, wantHas(s, u))
			has += truth(wantHas(s, u)).Num
		}
		checkRun(t, s, list, wantRun(s, list))
	}
	if has < 4000 {
		t.Errorf("%d updates change something", has)
	}
}

// actsProg has components of no, one and two states, and acts of several sets, of one state twice, and of none.
func actsProg() []impl.Comp {
	add := steps(state(0), con(num(1)), do(impl.OpAdd))
	return []impl.Comp{
		{States: []impl.Value{num(1)}, Acts: [][]impl.Set{{{Form: add}, {Form: steps(use(1))}}, nil}, Body: elemOf(0)},
		{States: []impl.Value{num(1), num(2)}, Acts: [][]impl.Set{nil, {{State: 1, Form: steps(state(1))}, {State: 0, Form: add}, {State: 1, Form: one()}}, {{Form: one()}}}, Body: elemOf(0)},
		{Acts: [][]impl.Set{nil}, Body: elemOf(0)},
	}
}

func checkActs(t *testing.T, s []impl.Cell, comp int, w []impl.Slot, act, lane int, want ...impl.Update) {
	t.Helper()
	if got := impl.ActUpdates(actsProg(), s, comp, w, act, lane); !same(got, want) {
		t.Errorf("ActUpdates(%v, %d, %v, %d, %d) = %v, not %v", s, comp, w, act, lane, got, want)
	}
}

func TestActUpdates(t *testing.T) {
	p := actsProg()
	w := deepPlace(20)
	s := []impl.Cell{cell(nil, num(1)), cell(w, none(), none())}
	add := p[0].Acts[0][0].Form
	for lane := range 3 {
		checkActs(t, s, 0, nil, 0, lane, setTo(nil, 0, lane, add...), setTo(nil, 0, lane, use(1)))
		checkActs(t, s, 1, w, 1, lane, setTo(w, 1, lane, state(1)), setTo(w, 0, lane, add...), setTo(w, 1, lane, one()...))
		checkActs(t, s, 1, w, 2, lane, setTo(w, 0, lane, one()...))
		checkActs(t, s, 0, nil, 1, lane)
		checkActs(t, s, 1, w, 0, lane)
	}
	for _, n := range []int{math.MinInt, -2, -1, 3, 4, math.MaxInt} {
		checkActs(t, s, n, nil, 0, 0)
		checkActs(t, s, 1, w, n, 0)
		checkActs(t, s, 0, nil, 0, n)
	}
	checkActs(t, s, 0, nil, 2, 0)
	checkActs(t, s, 2, nil, 0, 0)
	// The cell has another number of states, or there is none.
	checkActs(t, s, 1, nil, 2, 0)
	checkActs(t, s, 0, w, 0, 0)
	checkActs(t, s, 0, w[1:], 0, 0)
	checkActs(t, nil, 0, nil, 0, 0)
	for many := range 4 {
		s := []impl.Cell{cell(nil, make([]impl.Value, many)...)}
		if list := impl.ActUpdates(p, s, 1, nil, 2, 0); len(list) != truth(many == 2).Num {
			t.Errorf("ActUpdates of %d states = %v", many, list)
		}
	}
}

func TestActUpdatesOfWhatIsNotValid(t *testing.T) {
	for _, w := range invalidPlaces() {
		checkActs(t, []impl.Cell{cell(nil, num(1))}, 0, w, 0, 0)
		checkActs(t, []impl.Cell{cell(nil, num(1)), cell(w, num(1))}, 0, w, 0, 0)
	}
	for _, s := range invalidStores() {
		checkActs(t, s, 0, nil, 0, 0)
		checkActs(t, s, 0, place(slot(0, 1)), 0, 0)
	}
	for _, p := range append(invalidProgs(), append(actsProg(), actsProg()...)) {
		for comp := range max(1, len(p)) {
			if list := impl.ActUpdates(p, []impl.Cell{cell(nil, num(1))}, comp, nil, 0, 0); len(list) > 0 {
				t.Errorf("ActUpdates(%v) = %v", p, list)
			}
		}
	}
	p := actsProg()
	p[0].Body = elemOf(5)
	if list := impl.ActUpdates(p, []impl.Cell{cell(nil, num(1))}, 0, nil, 0, 0); len(list) > 0 {
		t.Errorf("ActUpdates(%v) = %v", p, list)
	}
}

func TestUpdatesChangeAndShareNothing(t *testing.T) {
	p := actsProg()
	w := append(make([]impl.Slot, 0, 9), deepPlace(3)...)
	s := []impl.Cell{cell(nil, num(1)), cell(w, none(), none())}
	list := impl.ActUpdates(p, s, 1, w, 1, 2)
	checkUnshared(t, list, p, s, w)
	out := impl.StoreRun(s, list)
	checkUnshared(t, out, s, list)
	checkUnshared(t, impl.StoreRun(s, nil), s)
	checkSame(t, "the program", p, actsProg())
	checkSame(t, "the store", s, []impl.Cell{cell(nil, num(1)), cell(w, none(), none())})
	checkSame(t, "the updates", list, impl.ActUpdates(p, s, 1, w, 1, 2))
}

func TestPromise33AValidUpdateLeavesAnEmptyStore(t *testing.T) {
	r := rand.New(rand.NewPCG(10, 21))
	for range 500 {
		checkRun(t, nil, randomUpdates(r, someStore(), 40), nil)
		checkHas(t, nil, randomUpdate(r, someStore()), false)
	}
}

func TestPromise34WhatChangesNothingChangesNothing(t *testing.T) {
	r := rand.New(rand.NewPCG(10, 22))
	nothing := 0
	for range 5000 {
		s := randomStore(r)
		u := randomUpdate(r, s)
		if !impl.UpdateHas(s, u) {
			nothing++
			checkRun(t, s, []impl.Update{u}, s)
		}
	}
	if nothing < 500 {
		t.Errorf("%d updates change nothing", nothing)
	}
}

func TestPromise36TheUpdatesOfAnActAreOfItsPlace(t *testing.T) {
	many := 0
	eachLively(600, func(r *rand.Rand, p []impl.Comp, s []impl.Cell) {
		for _, d := range wantDrafts(p, s) {
			s, w, comp := wantStore(p, s), d.Call.Place, d.Call.Comp
			for act, sets := range p[comp].Acts {
				lane := r.IntN(3)
				var want []impl.Update
				for _, set := range sets {
					want = append(want, setTo(w, set.State, lane, set.Form...))
				}
				list := impl.ActUpdates(p, s, comp, w, act, lane)
				checkSame(t, "ActUpdates", list, want)
				for _, u := range list {
					many++
					checkUpdateOk(t, u, true)
					checkHas(t, s, u, true)
				}
			}
		}
	})
	if many < 1000 {
		t.Errorf("the acts have %d updates", many)
	}
}

func TestPromise105AnUpdateAloneDrawsNoMoreThanItsComponentThoseAboveItAndThoseBelowIt(t *testing.T) {
	fewer := 0
	eachLively(1500, func(r *rand.Rand, p []impl.Comp, s []impl.Cell) {
		old := impl.DrawDrafts(p, s)
		own := impl.DrawStore(p, s)
		u := randomUpdate(r, own)
		most := 0
		for _, d := range old {
			most += truth(impl.PlaceUnder(u.Place, d.Call.Place) || impl.PlaceUnder(d.Call.Place, u.Place)).Num
		}
		next := impl.StoreRun(own, []impl.Update{u})
		// What comes to stand below it then is below it, too.
		for _, d := range impl.DrawDrafts(p, next) {
			isNew := !slices.ContainsFunc(old, func(o impl.Draft) bool { return slices.Equal(o.Call.Place, d.Call.Place) })
			most += truth(isNew && impl.PlaceUnder(d.Call.Place, u.Place)).Num
		}
		many := impl.RedrawMany(p, old, next)
		if many < 0 || many > most {
			t.Errorf("RedrawMany(%v, %v, %v) = %d, not at most %d", p, old, next, many, most)
		}
		fewer += truth(0 < many && many < len(old)).Num
	})
	if fewer < 200 {
		t.Errorf("%d updates draw less than all", fewer)
	}
}
