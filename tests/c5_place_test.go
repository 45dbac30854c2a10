package tests

import (
	"cmp"
	"math"
	"math/rand/v2"
	"slices"
	"testing"

	"loop.example/drawnanew/impl"
)

func place(slots ...impl.Slot) []impl.Slot { return slots }

func slot(pos, sub int) impl.Slot { return impl.Slot{Pos: pos, Sub: sub} }

// deepPlace returns a place of so many slots.
func deepPlace(many int) []impl.Slot {
	w := make([]impl.Slot, many)
	for i := range w {
		w[i] = slot(i%4, i%104)
	}
	return w
}

// invalidPlaces are wrong in one thing each.
func invalidPlaces() [][]impl.Slot {
	list := [][]impl.Slot{deepPlace(21), deepPlace(22), deepPlace(40), make([]impl.Slot, 21)}
	for _, n := range []int{math.MinInt, -2, -1, 4, 5, 104, 256, 1 << 32, math.MaxInt} {
		list = append(list, place(slot(n, 0)), place(slot(n, 103), slot(0, 0)), append(deepPlace(19), slot(n, 1)))
	}
	for _, n := range []int{math.MinInt, -2, -1, 104, 105, 256, 1 << 32, math.MaxInt} {
		list = append(list, place(slot(0, n)), place(slot(3, n), slot(0, 0)), append(deepPlace(19), slot(1, n)))
	}
	return list
}

// someSlots are in order.
func someSlots() []impl.Slot {
	return []impl.Slot{slot(0, 0), slot(0, 1), slot(0, 103), slot(1, 0), slot(1, 4), slot(2, 7), slot(3, 0), slot(3, 103)}
}

// orderedPlaces are all places of at most so many of some slots, in order.
func orderedPlaces(most int) [][]impl.Slot {
	list := [][]impl.Slot{nil}
	if most == 0 {
		return list
	}
	for _, s := range someSlots() {
		for _, below := range orderedPlaces(most - 1) {
			list = append(list, append(place(s), below...))
		}
	}
	return list
}

// randomPlace returns a random valid place, which often begins as others do.
func randomPlace(r *rand.Rand) []impl.Slot {
	var w []impl.Slot
	most := 4
	if r.IntN(8) == 0 {
		most = 20
	}
	for range r.IntN(most + 1) {
		s := slot(r.IntN(4), r.IntN(104))
		if r.IntN(3) > 0 {
			s = slot(r.IntN(2), r.IntN(2))
		}
		w = append(w, s)
	}
	return w
}

func eachTwoRandomPlaces(visit func(r *rand.Rand, a, b []impl.Slot)) {
	r := rand.New(rand.NewPCG(5, 16))
	for range 20000 {
		a, b := randomPlace(r), randomPlace(r)
		if r.IntN(4) == 0 {
			b = append(slices.Clone(a[:r.IntN(len(a)+1)]), b...)
			b = b[:min(len(b), 20)]
		}
		visit(r, a, b)
	}
}

func checkPlaceOk(t *testing.T, w []impl.Slot, want bool) {
	t.Helper()
	if impl.PlaceOk(w) != want {
		t.Errorf("PlaceOk(%v) is %v", w, !want)
	}
}

func checkOrder(t *testing.T, a, b []impl.Slot, want int) {
	t.Helper()
	if got := impl.PlaceOrder(a, b); got != want {
		t.Errorf("PlaceOrder(%v, %v) = %d, not %d", a, b, got, want)
	}
}

func checkUnder(t *testing.T, a, b []impl.Slot, want bool) {
	t.Helper()
	if impl.PlaceUnder(a, b) != want {
		t.Errorf("PlaceUnder(%v, %v) is %v", a, b, !want)
	}
}

func TestPlaceConstants(t *testing.T) {
	if impl.MaxPlace != 20 {
		t.Errorf("MaxPlace is %d", impl.MaxPlace)
	}
}

func TestPlaceOk(t *testing.T) {
	checkPlaceOk(t, nil, true)
	checkPlaceOk(t, place(), true)
	for many := range 50 {
		checkPlaceOk(t, deepPlace(many), many <= 20)
		checkPlaceOk(t, make([]impl.Slot, many), many <= 20)
	}
	for pos := -3; pos <= 8; pos++ {
		for sub := -3; sub <= 120; sub++ {
			want := 0 <= pos && pos <= 3 && 0 <= sub && sub <= 103
			checkPlaceOk(t, place(slot(pos, sub)), want)
			checkPlaceOk(t, place(slot(pos, sub), slot(0, 0)), want)
			checkPlaceOk(t, append(deepPlace(19), slot(pos, sub)), want)
		}
	}
	for _, w := range invalidPlaces() {
		checkPlaceOk(t, w, false)
	}
}

func TestPlaceOrder(t *testing.T) {
	list := orderedPlaces(3)
	for i, a := range list {
		for j, b := range list {
			checkOrder(t, a, b, cmp.Compare(i, j))
		}
		checkOrder(t, a, slices.Clone(a), 0)
	}
	checkOrder(t, nil, place(), 0)
}

func TestPlaceOrderIsByTheFirstDifferentSlot(t *testing.T) {
	checkOrder(t, place(slot(0, 103)), place(slot(1, 0)), -1)
	checkOrder(t, place(slot(2, 0)), place(slot(1, 103)), 1)
	checkOrder(t, place(slot(1, 9)), place(slot(1, 10)), -1)
	checkOrder(t, place(slot(1, 100)), place(slot(1, 99)), 1)
	checkOrder(t, place(slot(0, 0), slot(3, 103)), place(slot(0, 1)), -1)
	checkOrder(t, place(slot(0, 1), slot(0, 0)), place(slot(0, 0), slot(3, 3)), 1)
	checkOrder(t, place(slot(1, 1), slot(0, 0), slot(0, 5)), place(slot(1, 1), slot(0, 1), slot(0, 4)), -1)
	for many := range 20 {
		checkOrder(t, deepPlace(many), deepPlace(many+1), -1)
		checkOrder(t, deepPlace(many+1), deepPlace(many), 1)
		other := deepPlace(20)
		other[many].Sub++
		checkOrder(t, deepPlace(20), other, -1)
		checkOrder(t, other, deepPlace(many+1), 1)
	}
	checkOrder(t, deepPlace(20), deepPlace(20), 0)
}

func TestPlaceUnder(t *testing.T) {
	list := orderedPlaces(2)
	for _, a := range list {
		for _, b := range list {
			want := len(b) == 0 || len(b) == 1 && len(a) > 0 && a[0] == b[0] || len(a) == 2 && len(b) == 2 && a[0] == b[0] && a[1] == b[1]
			checkUnder(t, a, b, want)
		}
	}
	for many := range 21 {
		for more := range 21 {
			checkUnder(t, deepPlace(many), deepPlace(more), more <= many)
		}
		checkUnder(t, deepPlace(many), place(), true)
	}
	checkUnder(t, place(slot(1, 2), slot(0, 0)), place(slot(2, 1)), false)
	checkUnder(t, place(slot(0, 0), slot(1, 2)), place(slot(1, 2)), false)
	last := deepPlace(20)
	last[19].Sub++
	checkUnder(t, deepPlace(20), last, false)
}

func TestInvalidPlacesHaveNoOrder(t *testing.T) {
	valid := append(orderedPlaces(1), deepPlace(19), deepPlace(20))
	for _, bad := range invalidPlaces() {
		for _, w := range valid {
			checkOrder(t, bad, w, 0)
			checkOrder(t, w, bad, 0)
			checkUnder(t, bad, w, false)
			checkUnder(t, w, bad, false)
		}
		for _, other := range invalidPlaces()[:8] {
			checkOrder(t, bad, other, 0)
			checkUnder(t, bad, other, false)
		}
		checkUnder(t, bad, bad, false)
		checkUnder(t, bad, bad[:len(bad)-1], false)
	}
}

func TestPlacesAreNotChanged(t *testing.T) {
	a, b := deepPlace(20)[:18], deepPlace(20)[:19]
	impl.PlaceOk(a)
	impl.PlaceOrder(a, b)
	impl.PlaceUnder(b, a)
	checkSame(t, "the places", [][]impl.Slot{a[:20], b[:20]}, [][]impl.Slot{deepPlace(20), deepPlace(20)})
}

func TestPromise16APlaceIsBelowItselfWithoutItsLastSlot(t *testing.T) {
	eachTwoRandomPlaces(func(_ *rand.Rand, a, _ []impl.Slot) {
		checkPlaceOk(t, a, true)
		checkUnder(t, a, a, true)
		if len(a) > 0 {
			checkUnder(t, a, a[:len(a)-1], true)
			checkUnder(t, a[:len(a)-1], a, false)
		}
	})
}

func TestPromise17PlacesAreInOrder(t *testing.T) {
	eachTwoRandomPlaces(func(r *rand.Rand, a, b []impl.Slot) {
		order := impl.PlaceOrder(a, b)
		checkOrder(t, b, a, -order)
		if (order == 0) != slices.Equal(a, b) {
			t.Errorf("PlaceOrder(%v, %v) = %d", a, b, order)
		}
		if impl.PlaceUnder(a, b) && order < 0 || impl.PlaceUnder(b, a) && order > 0 {
			t.Errorf("one of %v and %v is below the other one and stands ahead of it", a, b)
		}
		// What is between two places has their order.
		c := randomPlace(r)
		if impl.PlaceOrder(a, c) == impl.PlaceOrder(c, b) && impl.PlaceOrder(a, c) != 0 {
			checkOrder(t, a, b, impl.PlaceOrder(a, c))
		}
	})
}

func TestPromise18BelowIsByTheBeginning(t *testing.T) {
	eachTwoRandomPlaces(func(_ *rand.Rand, a, b []impl.Slot) {
		under := impl.PlaceUnder(a, b)
		if under != (len(a) >= len(b) && slices.Equal(a[:min(len(a), len(b))], b)) {
			t.Errorf("PlaceUnder(%v, %v) is %v", a, b, under)
		}
		for cut := range len(b) + 1 {
			if under {
				checkUnder(t, a, b[:cut], true)
			}
			checkUnder(t, b, b[:cut], true)
		}
	})
}
