package tests

import (
	"math/rand/v2"
	"slices"
	"testing"

	"loop.example/drawnanew/impl"
)

func cell(w []impl.Slot, states ...impl.Value) impl.Cell {
	return impl.Cell{Place: w, States: states}
}

// someStore has cells without states, with as many as there can be, and below each other; some of its slices have spare capacity.
func someStore() []impl.Cell {
	s := make([]impl.Cell, 0, 9)
	states := append(make([]impl.Value, 0, 5), num(7), text("a"))
	w := append(make([]impl.Slot, 0, 9), slot(1, 0), slot(2, 0))
	return append(s,
		cell(nil, num(-1000), none(), text("abcdefghijkl")),
		cell(place(slot(0, 5)), num(1)),
		cell(place(slot(0, 5), slot(0, 0)), num(2)),
		cell(place(slot(0, 5), slot(3, 103)), num(3)),
		cell(place(slot(0, 50), slot(0, 0)), num(4)),
		cell(w, states...),
		cell(place(slot(1, 0), slot(2, 0), slot(0, 0))),
		cell(deepPlace(20)[1:], num(8)),
	)
}

// fullStore returns a store of so many cells, each with its number as state.
func fullStore(many int) []impl.Cell {
	var s []impl.Cell
	for i := range many {
		s = append(s, cell(place(slot(i/100%4, 0), slot(0, i%100)), num(i)))
	}
	return s
}

func invalidStates() [][]impl.Value {
	list := [][]impl.Value{make([]impl.Value, 4), make([]impl.Value, 5), make([]impl.Value, 400)}
	for _, v := range invalidValues() {
		list = append(list, []impl.Value{v}, []impl.Value{v, num(1)}, []impl.Value{num(1), num(1), v})
	}
	return list
}

// invalidStores are wrong in one thing each.
func invalidStores() [][]impl.Cell {
	a, b, c := place(slot(0, 1)), place(slot(0, 1), slot(2, 0)), place(slot(1, 0))
	list := [][]impl.Cell{fullStore(201), fullStore(202), fullStore(300)}
	for _, places := range [][][]impl.Slot{{a, a}, {nil, nil}, {b, b}, {b, a}, {c, a}, {a, nil}, {nil, a, b, a}, {nil, b, a, c}, {a, c, b}, {a, b, c, c}, {a, a, c}} {
		var s []impl.Cell
		for _, w := range places {
			s = append(s, cell(w, num(1)))
		}
		list = append(list, s)
	}
	for _, w := range invalidPlaces() {
		list = append(list, []impl.Cell{cell(w, num(1))}, []impl.Cell{cell(nil), cell(w)})
	}
	for _, states := range invalidStates() {
		list = append(list, []impl.Cell{cell(nil, states...), cell(a)}, []impl.Cell{cell(nil), cell(a), cell(c, states...)})
	}
	return list
}

func randomStates(r *rand.Rand) []impl.Value {
	return randomEnv(r, 0, r.IntN(4), 0).States
}

// randomStore returns a random valid store; it is put in order by the test's own order of places.
func randomStore(r *rand.Rand) []impl.Cell {
	var s []impl.Cell
	for range r.IntN(12) {
		w := randomPlace(r)
		if !slices.ContainsFunc(s, func(c impl.Cell) bool { return slices.Equal(c.Place, w) }) {
			s = append(s, cell(w, randomStates(r)...))
		}
	}
	slices.SortFunc(s, func(a, b impl.Cell) int { return slices.Compare(flatPlace(a.Place), flatPlace(b.Place)) })
	return s
}

// flatPlace returns the numbers of the slots of a place, one after the other, which are in the order of places.
func flatPlace(w []impl.Slot) []int {
	var list []int
	for _, s := range w {
		list = append(list, s.Pos, s.Sub)
	}
	return list
}

// eachRandomStore calls with random valid stores, a place, mostly one in the store or near one of it, and states.
func eachRandomStore(visit func(s []impl.Cell, w []impl.Slot, states []impl.Value)) {
	r := rand.New(rand.NewPCG(6, 19))
	for range 6000 {
		s := randomStore(r)
		w := randomPlace(r)
		if len(s) > 0 && r.IntN(3) > 0 {
			w = slices.Clone(s[r.IntN(len(s))].Place)
			w = w[:len(w)-r.IntN(min(2, len(w)+1))]
		}
		visit(s, w, randomStates(r))
	}
}

func checkStoreOk(t *testing.T, s []impl.Cell, want bool) {
	t.Helper()
	if impl.StoreOk(s) != want {
		t.Errorf("StoreOk(%v) is %v", s, !want)
	}
}

func checkGet(t *testing.T, s []impl.Cell, w []impl.Slot, want ...impl.Value) {
	t.Helper()
	if states, ok := impl.StoreGet(s, w); !ok || !same(states, want) {
		t.Errorf("StoreGet(%v, %v) = %v, %v, not %v", s, w, states, ok, want)
	}
}

func checkNotGot(t *testing.T, s []impl.Cell, w []impl.Slot) {
	t.Helper()
	if states, ok := impl.StoreGet(s, w); ok || len(states) > 0 {
		t.Errorf("StoreGet(%v, %v) = %v, %v", s, w, states, ok)
	}
}

func checkPut(t *testing.T, s []impl.Cell, w []impl.Slot, states []impl.Value, want []impl.Cell) {
	t.Helper()
	if list, ok := impl.StorePut(s, w, states); !ok || !same(list, want) {
		t.Errorf("StorePut(%v, %v, %v) = %v, %v, not %v", s, w, states, list, ok, want)
	}
}

func checkNotPut(t *testing.T, s []impl.Cell, w []impl.Slot, states []impl.Value) {
	t.Helper()
	if list, ok := impl.StorePut(s, w, states); ok || len(list) > 0 {
		t.Errorf("StorePut(%v, %v, %v) = %v, %v", s, w, states, list, ok)
	}
}

func checkCut(t *testing.T, s []impl.Cell, w []impl.Slot, want []impl.Cell) {
	t.Helper()
	if list := impl.StoreCut(s, w); !same(list, want) {
		t.Errorf("StoreCut(%v, %v) = %v, not %v", s, w, list, want)
	}
}

func TestStoreConstants(t *testing.T) {
	if impl.MaxCells != 200 {
		t.Errorf("MaxCells is %d", impl.MaxCells)
	}
}

func TestStoreOk(t *testing.T) {
	checkStoreOk(t, nil, true)
	checkStoreOk(t, []impl.Cell{}, true)
	checkStoreOk(t, []impl.Cell{{}}, true)
	checkStoreOk(t, someStore(), true)
	for _, many := range []int{1, 2, 199, 200, 201, 202, 400} {
		checkStoreOk(t, fullStore(many), many <= 200)
	}
	for many := range 6 {
		checkStoreOk(t, []impl.Cell{cell(nil, make([]impl.Value, many)...), cell(place(slot(0, 0)))}, many <= 3)
		checkStoreOk(t, []impl.Cell{cell(nil), cell(place(slot(0, 0)), make([]impl.Value, many)...)}, many <= 3)
	}
	for many := range 25 {
		checkStoreOk(t, []impl.Cell{cell(deepPlace(many))}, many <= 20)
	}
	for _, v := range validValues() {
		checkStoreOk(t, []impl.Cell{cell(nil, v, v, v)}, true)
	}
	for _, s := range invalidStores() {
		checkStoreOk(t, s, false)
	}
}

func TestStoreOkOfOrders(t *testing.T) {
	list := orderedPlaces(2)
	var s []impl.Cell
	for _, w := range list {
		s = append(s, cell(w))
	}
	checkStoreOk(t, s, true)
	for i := range s {
		other := slices.Clone(s)
		other[i].Place = other[max(1, i)-1].Place
		checkStoreOk(t, other, i == 0)
		other = slices.Clone(s)
		other[i], other[(i+1)%len(s)] = other[(i+1)%len(s)], other[i]
		checkStoreOk(t, other, false)
	}
}

func TestStoreGet(t *testing.T) {
	s := someStore()
	for _, c := range s {
		checkGet(t, s, c.Place, c.States...)
	}
	for _, w := range [][]impl.Slot{place(slot(0, 0)), place(slot(0, 4)), place(slot(0, 50)), place(slot(1, 0)), place(slot(1, 0), slot(2, 1)), place(slot(1, 0), slot(2, 0), slot(0, 0), slot(0, 0)), deepPlace(20), deepPlace(19)[1:]} {
		checkNotGot(t, s, w)
	}
	checkNotGot(t, nil, nil)
	checkNotGot(t, s[1:], nil)
	full := fullStore(200)
	for i, c := range full {
		checkGet(t, full, c.Place, num(i))
	}
	checkNotGot(t, full, place(slot(2, 0), slot(0, 0)))
}

func TestStorePutInPlaceOfACell(t *testing.T) {
	for i, c := range someStore() {
		for _, states := range [][]impl.Value{nil, {}, {num(99)}, {none(), num(1), text("b")}} {
			want := someStore()
			want[i].States = states
			checkPut(t, someStore(), c.Place, states, want)
		}
	}
	for _, i := range []int{0, 99, 199} {
		want := fullStore(200)
		want[i].States = []impl.Value{text("new")}
		checkPut(t, fullStore(200), want[i].Place, want[i].States, want)
	}
}

func TestStorePutOfACellMore(t *testing.T) {
	for i, c := range someStore() {
		without := slices.Delete(someStore(), i, i+1)
		checkPut(t, without, c.Place, c.States, someStore())
	}
	checkPut(t, nil, nil, nil, []impl.Cell{{}})
	checkPut(t, nil, deepPlace(20), []impl.Value{num(1)}, []impl.Cell{cell(deepPlace(20), num(1))})
	var s []impl.Cell
	for _, w := range orderedPlaces(2) {
		s = append(s, cell(w, num(len(w))))
	}
	for i, c := range s {
		checkPut(t, slices.Delete(slices.Clone(s), i, i+1), c.Place, c.States, s)
	}
}

func TestStorePutIntoAFullStore(t *testing.T) {
	last := fullStore(200)[199]
	checkPut(t, fullStore(199), last.Place, last.States, fullStore(200))
	for _, w := range [][]impl.Slot{nil, place(slot(0, 0)), place(slot(0, 0), slot(0, 5), slot(0, 0)), place(slot(3, 103))} {
		checkNotPut(t, fullStore(200), w, nil)
		checkNotPut(t, fullStore(200), w, []impl.Value{num(1)})
		if list, ok := impl.StorePut(fullStore(199), w, nil); !ok || len(list) != 200 || !impl.StoreOk(list) {
			t.Errorf("StorePut of the last cell at %v = %v, %v", w, list, ok)
		}
	}
}

func TestStoreCut(t *testing.T) {
	s := someStore()
	checkCut(t, s, nil, nil)
	checkCut(t, s, place(slot(0, 5)), slices.Concat(s[:1], s[4:]))
	checkCut(t, s, place(slot(0, 5), slot(0, 0)), slices.Concat(s[:2], s[3:]))
	checkCut(t, s, place(slot(0, 50)), slices.Concat(s[:4], s[5:]))
	checkCut(t, s, place(slot(1, 0)), slices.Concat(s[:5], s[7:]))
	checkCut(t, s, place(slot(1, 0), slot(2, 0), slot(0, 0)), slices.Concat(s[:6], s[7:]))
	checkCut(t, s, deepPlace(20)[1:8], s[:7])
	checkCut(t, s, deepPlace(20)[1:], s[:7])
	for _, w := range [][]impl.Slot{place(slot(0, 0)), place(slot(0, 6)), place(slot(0, 103)), place(slot(2, 0)), place(slot(1, 0), slot(2, 1)), deepPlace(20)} {
		checkCut(t, s, w, s)
	}
	checkCut(t, nil, nil, nil)
	checkCut(t, nil, place(slot(0, 0)), nil)
	checkCut(t, fullStore(200), place(slot(0, 0)), fullStore(200)[100:])
	checkCut(t, fullStore(200), place(slot(1, 0)), fullStore(100))
	checkCut(t, fullStore(200), place(slot(3, 0)), fullStore(200))
	checkCut(t, fullStore(200), nil, nil)
}

func TestStoresThatAreNotValid(t *testing.T) {
	for _, s := range invalidStores() {
		for _, w := range [][]impl.Slot{nil, place(slot(0, 1)), place(slot(3, 3))} {
			checkNotGot(t, s, w)
			checkNotPut(t, s, w, nil)
			checkNotPut(t, s, w, []impl.Value{num(1)})
			checkCut(t, s, w, nil)
		}
		if len(s) > 0 {
			checkNotGot(t, s, s[0].Place)
		}
	}
	for _, w := range invalidPlaces() {
		for _, s := range [][]impl.Cell{nil, someStore(), fullStore(200)} {
			checkNotGot(t, s, w)
			checkNotPut(t, s, w, nil)
			checkNotPut(t, s, w, []impl.Value{num(1)})
			checkCut(t, s, w, nil)
		}
	}
	for _, states := range invalidStates() {
		for _, s := range [][]impl.Cell{nil, someStore()} {
			checkNotPut(t, s, nil, states)
			checkNotPut(t, s, place(slot(0, 5)), states)
			checkNotPut(t, s, place(slot(3, 3)), states)
		}
	}
}

func TestStoresChangeAndShareNothing(t *testing.T) {
	for _, w := range [][]impl.Slot{nil, place(slot(0, 5)), place(slot(1, 0), slot(2, 0)), place(slot(1, 0)), append(make([]impl.Slot, 0, 5), slot(3, 3))} {
		s := someStore()
		states := append(make([]impl.Value, 0, 3), num(1), num(2))
		got, _ := impl.StoreGet(s, w)
		put, ok := impl.StorePut(s, w, states)
		cut := impl.StoreCut(s, w)
		checkUnshared(t, got, s, w)
		checkUnshared(t, put, s, w, states)
		checkUnshared(t, cut, s, w)
		if !ok || len(put) == 0 {
			t.Errorf("StorePut(%v, %v, %v) = %v, %v", s, w, states, put, ok)
		}
		for _, list := range [][]impl.Cell{put, cut} {
			for i := range list {
				clear(list[i].Place)
				clear(list[i].States)
			}
			clear(list)
		}
		clear(got)
		checkSame(t, "the store", s, someStore())
		checkSame(t, "the states", states, []impl.Value{num(1), num(2)})
	}
}

func TestPromise19AStoreGivesWhatItsCellsHave(t *testing.T) {
	eachRandomStore(func(s []impl.Cell, _ []impl.Slot, _ []impl.Value) {
		checkStoreOk(t, s, true)
		for _, c := range s {
			checkGet(t, s, c.Place, c.States...)
		}
	})
}

func TestPromise20WhatIsGotAndPutAgainChangesNothing(t *testing.T) {
	eachRandomStore(func(s []impl.Cell, w []impl.Slot, _ []impl.Value) {
		for _, c := range s {
			w = c.Place
			states, ok := impl.StoreGet(s, w)
			if !ok {
				t.Errorf("StoreGet(%v, %v) has no states", s, w)
			}
			checkPut(t, s, w, states, s)
		}
	})
}

// without returns the cells of other places.
func without(s []impl.Cell, w []impl.Slot) []impl.Cell {
	return slices.DeleteFunc(slices.Clone(s), func(c impl.Cell) bool { return slices.Equal(c.Place, w) })
}

func TestPromise21WhatIsPutIsThereAndNothingElseIsAnotherOne(t *testing.T) {
	eachRandomStore(func(s []impl.Cell, w []impl.Slot, states []impl.Value) {
		put, ok := impl.StorePut(s, w, states)
		if !ok {
			t.Errorf("StorePut(%v, %v, %v) is refused", s, w, states)
		}
		checkStoreOk(t, put, true)
		checkGet(t, put, w, states...)
		if !same(without(put, w), without(s, w)) || len(put) != len(without(s, w))+1 {
			t.Errorf("StorePut(%v, %v, %v) = %v", s, w, states, put)
		}
		checkCut(t, put, w, impl.StoreCut(s, w))
	})
}

func TestPromise22NothingIsLeftBelowAPlaceThatIsCut(t *testing.T) {
	eachRandomStore(func(s []impl.Cell, w []impl.Slot, _ []impl.Value) {
		cut := impl.StoreCut(s, w)
		checkStoreOk(t, cut, true)
		checkNotGot(t, cut, w)
		var want []impl.Cell
		for _, c := range s {
			if len(c.Place) >= len(w) && slices.Equal(c.Place[:len(w)], w) {
				checkNotGot(t, cut, c.Place)
				continue
			}
			want = append(want, c)
		}
		checkSame(t, "what is left", cut, want)
		checkCut(t, cut, w, cut)
	})
}
