package tests

import (
	"math"
	"math/rand/v2"
	"slices"
	"testing"

	"loop.example/drawnanew/impl"
)

// wantJoined leaves works of no units out, and then joins the first two turns that may be joined, until there are none.
func wantJoined(list []impl.Turn) []impl.Turn {
	list = slices.DeleteFunc(slices.Clone(list), func(x impl.Turn) bool { return x.Kind == impl.TurnWork && x.Units == 0 })
	for i := range max(0, len(list)-1) {
		a, b := list[i], list[i+1]
		if a.Kind == b.Kind && a.Kind != impl.TurnPost && a.Units+b.Units <= 300 {
			a.Units += b.Units
			return wantJoined(slices.Concat(list[:i], turns(a), list[i+2:]))
		}
	}
	return list
}

// wantCut counts the pieces of a work ahead of writing them.
func wantCut(list []impl.Turn, units int) []impl.Turn {
	var out []impl.Turn
	for _, x := range list {
		pieces := max(1, (x.Units+units-1)/units)
		out = append(out, slices.Repeat(turns(working(units)), pieces-1)...)
		x.Units -= units * (pieces - 1)
		out = append(out, x)
	}
	return out
}

func checkTurnsOk(t *testing.T, list []impl.Turn, want bool) {
	t.Helper()
	if impl.TurnsOk(list) != want {
		t.Errorf("TurnsOk(%v) is %v", list, !want)
	}
	if want {
		checkJoined(t, list, wantJoined(list)...)
		checkPieces(t, list, 300)
		return
	}
	checkJoined(t, list)
	for _, units := range []int{-1, 0, 1, 300, 301} {
		checkNoPieces(t, list, units)
	}
}

func checkJoined(t *testing.T, list []impl.Turn, want ...impl.Turn) {
	t.Helper()
	if got := impl.TurnsJoin(list); !same(got, want) {
		t.Errorf("TurnsJoin(%v) = %v, not %v", list, got, want)
	}
}

func checkPieces(t *testing.T, list []impl.Turn, units int) {
	t.Helper()
	want := wantCut(list, units)
	if len(want) > 60 {
		checkNoPieces(t, list, units)
		return
	}
	if got, ok := impl.TurnsCut(list, units); !ok || !same(got, want) {
		t.Errorf("TurnsCut(%v, %d) = %v, %v, not %v", list, units, got, ok, want)
	}
}

func checkNoPieces(t *testing.T, list []impl.Turn, units int) {
	t.Helper()
	if got, ok := impl.TurnsCut(list, units); ok || len(got) > 0 {
		t.Errorf("TurnsCut(%v, %d) = %v, %v", list, units, got, ok)
	}
}

func checkPiecesAre(t *testing.T, list []impl.Turn, units int, want ...impl.Turn) {
	t.Helper()
	if got, ok := impl.TurnsCut(list, units); !ok || !same(got, want) {
		t.Errorf("TurnsCut(%v, %d) = %v, %v, not %v", list, units, got, ok, want)
	}
	checkPieces(t, list, units)
}

// works are TurnWork of so many units each.
func works(units ...int) []impl.Turn {
	var list []impl.Turn
	for _, n := range units {
		list = append(list, working(n))
	}
	return list
}

func TestTurnsOk(t *testing.T) {
	post := posted(bumped(1, 2, 1))
	for _, x := range []impl.Turn{post, flushed(), working(0), working(1)} {
		for many := range 64 {
			if many < 4 || many > 57 {
				checkTurnsOk(t, slices.Repeat(turns(x), many), many <= 60)
			}
		}
	}
	checkTurnsOk(t, turns(), true)
	checkTurnsOk(t, turns(post, working(300), flushed(), posted(added(1, -1)), working(7)), true)
	for n := -3; n <= 305; n++ {
		checkTurnsOk(t, works(n), 0 <= n && n <= 300)
	}
	for _, x := range append(invalidTurns(), impl.Turn{}) {
		checkTurnsOk(t, turns(x), false)
		checkTurnsOk(t, turns(post, x), false)
		checkTurnsOk(t, turns(x, flushed(), working(3)), false)
	}
	// Slices without elements are none.
	checkTurnsOk(t, turns(impl.Turn{Kind: impl.TurnFlush, Update: impl.Update{Place: place(), Form: steps()}}), true)
}

func TestTurnsJoin(t *testing.T) {
	post, other := posted(added(1, 0)), posted(bumped(1, 2, 1))
	// Works of no units, wherever they stand.
	checkJoined(t, works(0))
	checkJoined(t, works(0, 0, 0))
	checkJoined(t, turns(working(0), post, working(0), other, working(0)), post, other)
	checkJoined(t, works(0, 2, 0, 0, 3, 0), working(5))
	// Works that have as many units together as there can be, one more, and three in a row.
	checkJoined(t, works(100, 200), working(300))
	checkJoined(t, works(300, 0), working(300))
	checkJoined(t, works(300, 1), working(300), working(1))
	checkJoined(t, works(1, 300), working(1), working(300))
	checkJoined(t, works(150, 151), working(150), working(151))
	checkJoined(t, works(100, 100, 100), working(300))
	checkJoined(t, works(100, 100, 101), working(200), working(101))
	checkJoined(t, works(200, 200, 100), working(200), working(300))
	checkJoined(t, works(200, 200, 101), working(200), working(200), working(101))
	checkJoined(t, works(1, 2, 3, 4), working(10))
	// With others between them nothing is joined.
	checkJoined(t, turns(working(1), post, working(2)), working(1), post, working(2))
	checkJoined(t, turns(working(1), flushed(), working(2), flushed()), working(1), flushed(), working(2), flushed())
	checkJoined(t, turns(post, post, other, other), post, post, other, other)
	// Flushes.
	checkJoined(t, turns(flushed(), flushed()), flushed())
	checkJoined(t, turns(flushed(), flushed(), flushed(), post, flushed(), flushed()), flushed(), post, flushed())
	checkJoined(t, turns(flushed(), working(0), flushed(), working(0), working(0), flushed()), flushed())
	checkJoined(t, turns(working(1), flushed(), working(0), flushed(), working(1), working(1)), working(1), flushed(), working(2))
	checkJoined(t, nil)
}

func TestTurnsCut(t *testing.T) {
	post := posted(added(1, 0))
	for units := 1; units <= 9; units++ {
		checkPieces(t, works(7), units)
	}
	checkPiecesAre(t, works(7), 7, working(7))
	checkPiecesAre(t, works(7), 6, working(6), working(1))
	checkPiecesAre(t, works(6), 3, working(3), working(3))
	checkPiecesAre(t, works(7), 3, working(3), working(3), working(1))
	checkPiecesAre(t, works(8), 3, working(3), working(3), working(2))
	checkPiecesAre(t, works(0), 1, working(0))
	checkPiecesAre(t, works(0, 1, 2), 1, working(0), working(1), working(1), working(1))
	checkPiecesAre(t, works(300), 300, working(300))
	checkPiecesAre(t, works(300), 299, working(299), working(1))
	checkPiecesAre(t, turns(post, working(2), flushed(), post), 1, post, working(1), working(1), flushed(), post)
	checkPiecesAre(t, nil, 1)
	for _, units := range beyond(1, 300) {
		checkNoPieces(t, works(7), units)
		checkNoPieces(t, nil, units)
		checkNoPieces(t, turns(post), units)
	}
	for _, units := range []int{math.MinInt + 1, -300, -7, -1} {
		checkNoPieces(t, works(7), units)
	}
}

func TestTurnsCutOfMaxScript(t *testing.T) {
	// As many pieces as there is room for, and one more.
	checkPieces(t, works(60), 1)
	if got, ok := impl.TurnsCut(works(60), 1); !ok || len(got) != 60 {
		t.Errorf("60 units are %d pieces, %v", len(got), ok)
	}
	checkNoPieces(t, works(61), 1)
	checkNoPieces(t, works(59, 2), 1)
	checkNoPieces(t, turns(posted(added(1, 0)), working(60)), 1)
	checkNoPieces(t, turns(working(60), flushed()), 1)
	checkNoPieces(t, slices.Repeat(works(300), 60), 1)
	checkNoPieces(t, slices.Repeat(works(300), 60), 299)
	checkPieces(t, slices.Repeat(works(300), 60), 300)
	checkPieces(t, slices.Repeat(works(300), 30), 150)
	checkNoPieces(t, slices.Repeat(works(300), 30), 149)
	checkPieces(t, works(300), 5)
	checkNoPieces(t, works(300), 4)
}

// someTurns are valid turns of listProg, many of which may be joined or cut.
func someTurns(r *rand.Rand) []impl.Turn {
	var list []impl.Turn
	for range r.IntN(16) {
		list = append(list, []impl.Turn{flushed(), working(0), working(r.IntN(4)), working(r.IntN(301)), posted(added(r.IntN(5), r.IntN(3))), posted(bumped(1, 1, r.IntN(3)))}[r.IntN(6)])
	}
	return list
}

func TestTurnsOfRandomScripts(t *testing.T) {
	r := rand.New(rand.NewPCG(24, 20))
	for range 3000 {
		list := someTurns(r)
		checkTurnsOk(t, list, true)
		checkPieces(t, list, 1+r.IntN(300))
		checkPieces(t, list, 1+r.IntN(9))
	}
}

func TestScriptsChangeAndShareNothing(t *testing.T) {
	r := rand.New(rand.NewPCG(24, 21))
	for range 300 {
		list := someTurns(r)
		for i, x := range list {
			x.Update.Place = append(make([]impl.Slot, 0, 9), x.Update.Place...)
			x.Update.Form = append(make([]impl.Step, 0, 9), x.Update.Form...)
			list[i] = x
		}
		copied := slices.Clone(list)
		checkUnshared(t, impl.TurnsJoin(list), list)
		cut, _ := impl.TurnsCut(list, 7)
		checkUnshared(t, cut, list)
		impl.TurnsOk(list)
		checkSame(t, "the turns", list, copied)
	}
	// One update in several turns.
	twice := slices.Repeat(turns(posted(bumped(1, 1, 0))), 3)
	checkUnshared(t, impl.TurnsJoin(twice), twice)
	cut, _ := impl.TurnsCut(twice, 1)
	checkUnshared(t, cut, twice)
}

func TestPromise77TheBeginningOfValidTurnsIsValid(t *testing.T) {
	eachScript(300, func(_ *rand.Rand, _ []impl.Comp, list []impl.Turn) {
		for at := range len(list) + 1 {
			if !impl.TurnsOk(list[:at]) || !impl.TurnsOk(list[at:]) {
				t.Errorf("TurnsOk of %v, cut at %d, is not true", list, at)
			}
		}
	})
}

func TestPromise78WhatIsJoinedIsJoined(t *testing.T) {
	r := rand.New(rand.NewPCG(24, 22))
	shorter := 0
	for range 3000 {
		list := someTurns(r)
		joined := impl.TurnsJoin(list)
		checkJoined(t, joined, joined...)
		if len(joined) > len(list) || !impl.TurnsOk(joined) {
			t.Errorf("TurnsJoin(%v) = %v", list, joined)
		}
		shorter += truth(len(joined) < len(list)).Num
	}
	if shorter < 1000 {
		t.Errorf("%d scripts are shorter", shorter)
	}
}

func TestPromise79WhatIsCutHasNoGreaterWorks(t *testing.T) {
	r := rand.New(rand.NewPCG(24, 23))
	many := 0
	for range 3000 {
		list, units := someTurns(r), 1+r.IntN(300)
		cut, ok := impl.TurnsCut(list, units)
		if !impl.TurnsOk(cut) || slices.ContainsFunc(cut, func(x impl.Turn) bool { return x.Units > units }) {
			t.Errorf("TurnsCut(%v, %d) = %v", list, units, cut)
		}
		many += truth(ok && len(cut) > len(list)).Num
	}
	if many < 500 {
		t.Errorf("%d scripts are cut", many)
	}
}

func TestPromise107TurnsThatAreJoinedDoTheSame(t *testing.T) {
	eachScript(700, func(r *rand.Rand, p []impl.Comp, list []impl.Turn) {
		for range min(5, 60-len(list)) {
			list = slices.Insert(list, r.IntN(len(list)+1), []impl.Turn{working(0), working(r.IntN(3)), flushed()}[r.IntN(3)])
		}
		checkSame(t, "the screen", impl.RootRun(p, impl.TurnsJoin(list)), impl.RootRun(p, list))
		checkSame(t, "the tests' own screen", play(p, wantJoined(list)).whole(), play(p, list).whole())
	})
}

func TestPromise108TurnsThatAreCutDoTheSame(t *testing.T) {
	many := 0
	eachScript(700, func(_ *rand.Rand, p []impl.Comp, list []impl.Turn) {
		if cut, ok := impl.TurnsCut(list, 1); ok {
			many += truth(len(cut) > len(list)).Num
			checkSame(t, "the screen", impl.RootRun(p, cut), impl.RootRun(p, list))
		}
	})
	if many < 200 {
		t.Errorf("%d scripts are cut", many)
	}
}
