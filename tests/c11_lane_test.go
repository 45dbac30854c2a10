package tests

import (
	"math"
	"math/rand/v2"
	"slices"
	"testing"

	"loop.example/drawnanew/impl"
)

func lineOf(base []impl.Cell, rest ...impl.Update) impl.Line {
	return impl.Line{Base: base, Rest: rest}
}

// rootCell is a store of the root with a number as its only state.
func rootCell(n int) []impl.Cell { return []impl.Cell{cell(nil, num(n))} }

func isShown(u impl.Update, lanes int) bool {
	return u.Lane == -1 || lanes/[]int{1, 2, 4}[u.Lane]%2 == 1
}

func wantShow(l impl.Line, lanes int) []impl.Cell {
	return wantRun(l.Base, slices.DeleteFunc(slices.Clone(l.Rest), func(u impl.Update) bool { return !isShown(u, lanes) }))
}

// wantRest looks, for each update, at all those that stay ahead of it.
func wantRest(l impl.Line, lanes int) impl.Line {
	out := lineOf(l.Base)
	for _, u := range l.Rest {
		waits := slices.ContainsFunc(out.Rest, func(o impl.Update) bool {
			return slices.Equal(o.Place, u.Place) && !isShown(o, lanes)
		})
		based := slices.ContainsFunc(l.Base, func(c impl.Cell) bool { return slices.Equal(c.Place, u.Place) })
		switch {
		case !isShown(u, lanes):
			out.Rest = append(out.Rest, u)
		case waits && based:
			u.Lane = impl.LaneDone
			out.Rest = append(out.Rest, u)
		default:
			out.Base = wantRun(out.Base, []impl.Update{u})
		}
	}
	return out
}

func wantWants(l impl.Line) int {
	lanes := 0
	for bit, lane := range map[int]int{1: 0, 2: 1, 4: 2} {
		if slices.ContainsFunc(l.Rest, func(u impl.Update) bool { return u.Lane == lane }) {
			lanes += bit
		}
	}
	return lanes
}

// checkLine checks all that is told of a valid line.
func checkLine(t *testing.T, l impl.Line) {
	t.Helper()
	if !impl.LineOk(l) || impl.LineWants(l) != wantWants(l) {
		t.Errorf("LineOk(%v) is %v, LineWants = %d, not %d", l, impl.LineOk(l), impl.LineWants(l), wantWants(l))
	}
	for lanes := range 8 {
		if s := impl.LineShow(l, lanes); !same(s, wantShow(l, lanes)) {
			t.Errorf("LineShow(%v, %d) = %v, not %v", l, lanes, s, wantShow(l, lanes))
		}
		if rest := impl.LineRest(l, lanes); !same(rest, wantRest(l, lanes)) {
			t.Errorf("LineRest(%v, %d) = %v, not %v", l, lanes, rest, wantRest(l, lanes))
		}
	}
}

func checkNoLine(t *testing.T, l impl.Line) {
	t.Helper()
	if impl.LineOk(l) || impl.LineWants(l) != -1 {
		t.Errorf("LineOk(%v) is %v, LineWants = %d", l, impl.LineOk(l), impl.LineWants(l))
	}
	for lanes := range 8 {
		checkNotShown(t, l, lanes)
	}
}

func checkNotShown(t *testing.T, l impl.Line, lanes int) {
	t.Helper()
	if s, rest := impl.LineShow(l, lanes), impl.LineRest(l, lanes); len(s) > 0 || !same(rest, impl.Line{}) {
		t.Errorf("LineShow(%v, %d) = %v, LineRest = %v", l, lanes, s, rest)
	}
}

func checkShow(t *testing.T, l impl.Line, lanes int, want []impl.Cell) {
	t.Helper()
	if s := impl.LineShow(l, lanes); !same(s, want) {
		t.Errorf("LineShow(%v, %d) = %v, not %v", l, lanes, s, want)
	}
}

func checkRest(t *testing.T, l impl.Line, lanes int, want impl.Line) {
	t.Helper()
	if rest := impl.LineRest(l, lanes); !same(rest, want) {
		t.Errorf("LineRest(%v, %d) = %v, not %v", l, lanes, rest, want)
	}
	checkLine(t, l)
}

// randomLine returns a random valid line, most of whose updates are of the places of its Base.
func randomLine(r *rand.Rand) impl.Line {
	s := randomStore(r)
	if len(s) > 0 && r.IntN(2) == 0 {
		s = s[:1]
	}
	for i := range s {
		if r.IntN(3) > 0 {
			s[i].States = []impl.Value{livelyValue(r), livelyValue(r), livelyValue(r)}
		}
	}
	return lineOf(s, randomUpdates(r, s, []int{4, 10, 40}[r.IntN(3)])...)
}

func eachRandomLine(many int, visit func(r *rand.Rand, l impl.Line)) {
	r := rand.New(rand.NewPCG(11, 20))
	for range many {
		visit(r, randomLine(r))
	}
}

func TestLineOk(t *testing.T) {
	checkLine(t, impl.Line{})
	checkLine(t, lineOf(someStore()))
	checkLine(t, lineOf(nil, added(1, 0)))
	all := slices.Repeat([]impl.Update{added(1, 0), times(2, 1), added(3, 2), added(4, impl.LaneDone)}, 10)
	checkLine(t, lineOf(rootCell(0), all[:39]...))
	checkLine(t, lineOf(rootCell(0), all...))
	checkNoLine(t, lineOf(rootCell(0), append(all, added(1, 0))...))
	checkNoLine(t, lineOf(rootCell(0), append(all, all...)...))
	for _, s := range invalidStores() {
		checkNoLine(t, lineOf(s))
		checkNoLine(t, lineOf(s, added(1, 0)))
	}
	for _, list := range invalidUpdateLists() {
		checkNoLine(t, lineOf(rootCell(0), list...))
		checkNoLine(t, lineOf(nil, list...))
	}
}

func TestLinesOfOtherLanes(t *testing.T) {
	l := lineOf(rootCell(1), added(1, 0))
	for _, lanes := range []int{math.MinInt, -8, -2, -1, 8, 9, 15, 16, 1 << 32, math.MaxInt} {
		checkNotShown(t, l, lanes)
		checkNotShown(t, impl.Line{}, lanes)
	}
}

func TestLineShow(t *testing.T) {
	l := lineOf(rootCell(5), added(1, 1), times(2, 0), added(10, 2), added(100, impl.LaneDone))
	for lanes, want := range []int{105, 110, 106, 112, 115, 120, 116, 122} {
		checkShow(t, l, lanes, rootCell(want))
	}
	checkLine(t, l)
	checkShow(t, lineOf(rootCell(5)), 7, rootCell(5))
	checkShow(t, lineOf(nil, added(1, 0)), 7, nil)
}

func TestLineRest(t *testing.T) {
	first, second, third := added(1, 0), times(2, 1), added(10, 2)
	done := func(u impl.Update) impl.Update {
		u.Lane = impl.LaneDone
		return u
	}
	l := lineOf(rootCell(5), first, second, third)
	checkRest(t, l, 0, l)
	checkRest(t, l, 1, lineOf(rootCell(6), second, third))
	checkRest(t, l, 2, lineOf(rootCell(5), first, done(second), third))
	checkRest(t, l, 4, lineOf(rootCell(5), first, second, done(third)))
	checkRest(t, l, 3, lineOf(rootCell(12), third))
	checkRest(t, l, 5, lineOf(rootCell(6), second, done(third)))
	checkRest(t, l, 6, lineOf(rootCell(5), first, done(second), done(third)))
	checkRest(t, l, 7, lineOf(rootCell(22)))
	checkRest(t, lineOf(rootCell(5)), 7, lineOf(rootCell(5)))
	// Updates that were shown wait for those ahead of them alone.
	l = lineOf(rootCell(5), done(first), second, done(third))
	checkRest(t, l, 0, lineOf(rootCell(6), second, done(third)))
	checkRest(t, l, 2, lineOf(rootCell(22)))
	checkRest(t, lineOf(rootCell(5), done(first), done(second)), 0, lineOf(rootCell(12)))
	// Those of one place do not wait for those of another one.
	w := place(slot(1, 1))
	other := setTo(w, 0, 1, number(9)...)
	s := append(rootCell(5), cell(w, num(7)))
	checkRest(t, lineOf(s, first, other), 2, lineOf(append(rootCell(5), cell(w, num(9))), first))
	checkRest(t, lineOf(s, other, first), 1, lineOf(append(rootCell(6), cell(w, num(7))), other))
	// Updates of a place that the Base has not do not wait when they are shown.
	checkRest(t, lineOf(rootCell(5), setTo(w, 0, 0, one()...), other), 2, lineOf(rootCell(5), setTo(w, 0, 0, one()...)))
	// The same state set twice, and another state of the same place.
	l = lineOf(rootCell(5), setTo(nil, 0, 1, number(1)...), setTo(nil, 0, 0, number(2)...))
	checkRest(t, l, 1, lineOf(rootCell(5), l.Rest[0], done(l.Rest[1])))
	checkShow(t, impl.LineRest(l, 1), 2, rootCell(2))
	l = lineOf([]impl.Cell{cell(nil, num(1), num(2))}, setTo(nil, 1, 1, number(8)...), setTo(nil, 0, 0, number(9)...))
	checkRest(t, l, 1, lineOf(l.Base, l.Rest[0], done(l.Rest[1])))
}

func TestLineWants(t *testing.T) {
	for lanes := range 8 {
		l := lineOf(rootCell(1), added(1, impl.LaneDone))
		for lane := range 3 {
			if lanes>>lane&1 == 1 {
				l.Rest = append(l.Rest, added(1, lane), added(2, lane))
			}
		}
		if got := impl.LineWants(l); got != lanes {
			t.Errorf("LineWants(%v) = %d, not %d", l, got, lanes)
		}
	}
	if got := impl.LineWants(lineOf(nil, setTo(deepPlace(9), 2, 2, one()...))); got != 4 {
		t.Errorf("LineWants = %d, not 4", got)
	}
}

func TestLinesChangeAndShareNothing(t *testing.T) {
	eachRandomLine(300, func(r *rand.Rand, l impl.Line) {
		base, rest := slices.Clone(l.Base), slices.Clone(l.Rest)
		for lanes := range 8 {
			checkUnshared(t, impl.LineShow(l, lanes), l)
			checkUnshared(t, impl.LineRest(l, lanes), l)
		}
		checkSame(t, "the line", l, lineOf(base, rest...))
		checkLine(t, l)
	})
}

func TestPromise35UpdatesAreDoneOneByOne(t *testing.T) {
	eachRandomLine(3000, func(_ *rand.Rand, l impl.Line) {
		for n := range min(3, len(l.Rest)) {
			checkRun(t, impl.StoreRun(l.Base, l.Rest[:n+1]), l.Rest[n+1:], impl.StoreRun(l.Base, l.Rest))
		}
		checkRun(t, l.Base, l.Rest, wantRun(l.Base, l.Rest))
	})
}

func TestPromise37ALineWithAllLanesShowsAllUpdates(t *testing.T) {
	eachRandomLine(3000, func(_ *rand.Rand, l impl.Line) {
		checkShow(t, l, 7, impl.StoreRun(l.Base, l.Rest))
		checkLine(t, l)
	})
}

func TestPromise38ALineThatWasShownShowsTheSameAgain(t *testing.T) {
	eachRandomLine(3000, func(_ *rand.Rand, l impl.Line) {
		for lanes := range 8 {
			checkShow(t, impl.LineRest(l, lanes), lanes, impl.LineShow(l, lanes))
		}
	})
}

func TestPromise39InWhateverOrderLanesAreShownInTheEndAllUpdatesAreDoneInOrder(t *testing.T) {
	other := 0
	eachRandomLine(3000, func(r *rand.Rand, l impl.Line) {
		want := impl.LineShow(l, 7)
		for lanes := range 8 {
			checkShow(t, impl.LineRest(l, lanes), 7, want)
		}
		now := l
		for range 4 {
			now = impl.LineRest(now, r.IntN(8))
			checkShow(t, now, 7, want)
		}
		// There are lines of which the order is seen: shown by lanes, they are other ones.
		byLanes := l.Base
		for lane := range 3 {
			byLanes = impl.StoreRun(byLanes, slices.DeleteFunc(slices.Clone(l.Rest), func(u impl.Update) bool { return u.Lane != lane }))
		}
		other += truth(!same(byLanes, want)).Num
	})
	if other < 300 {
		t.Errorf("the order is seen of %d lines", other)
	}
}

func TestPromise40WhatALineWantsIsShownThen(t *testing.T) {
	eachRandomLine(3000, func(_ *rand.Rand, l impl.Line) {
		wants := impl.LineWants(l)
		rest := impl.LineRest(l, wants)
		if impl.LineWants(rest) != 0 || wants != wantWants(l) {
			t.Errorf("LineWants(%v) = %d, and then %d", l, wants, impl.LineWants(rest))
		}
		checkShow(t, rest, 0, impl.LineShow(l, 7))
	})
}
