package tests

import (
	"math"
	"math/rand/v2"
	"slices"
	"testing"

	"loop.example/drawnanew/impl"
)

func posted(u impl.Update) impl.Turn { return impl.Turn{Kind: impl.TurnPost, Update: u} }

func working(units int) impl.Turn { return impl.Turn{Kind: impl.TurnWork, Units: units} }

func flushed() impl.Turn { return impl.Turn{Kind: impl.TurnFlush} }

func turns(list ...impl.Turn) []impl.Turn { return list }

// player is the tests' own screen: of its work it knows how many units were done.
type player struct {
	p     []impl.Comp
	root  impl.Root
	units int
	s     []impl.Cell
	// shown are all drafts that were shown, one after the other.
	shown [][]impl.Draft
	lost  int
	log   []impl.Event
}

func play(p []impl.Comp, list []impl.Turn) *player {
	y := &player{p: p}
	y.root.Drafts = wantDrafts(p, nil)
	y.root.Line.Base = cellsOf(y.root.Drafts)
	y.shown = append(y.shown, y.root.Drafts)
	y.take(list)
	return y
}

func (y *player) take(list []impl.Turn) {
	for _, x := range list {
		switch x.Kind {
		case impl.TurnPost:
			y.post(x.Update)
		case impl.TurnWork:
			for range x.Units {
				y.unit()
			}
		case impl.TurnFlush:
			y.flush()
		}
	}
}

func (y *player) event(kind, lane int) {
	y.log = append(y.log, impl.Event{Kind: kind, Lane: lane})
	y.root.Log = y.log[:min(len(y.log), 60)]
}

func (y *player) idle() {
	y.root.Busy, y.root.Lane, y.root.Seen, y.units, y.s = false, 0, 0, 0, nil
}

func (y *player) post(u impl.Update) {
	if u.Lane < 0 || !slices.ContainsFunc(y.root.Line.Base, func(c impl.Cell) bool { return slices.Equal(c.Place, u.Place) }) || len(y.root.Line.Rest) == 40 {
		y.lost++
		y.event(impl.EventLost, u.Lane)
		return
	}
	y.root.Line.Rest = append(slices.Clone(y.root.Line.Rest), u)
	if y.root.Busy && u.Lane < y.root.Lane {
		y.idle()
		y.event(impl.EventDrop, u.Lane)
	}
}

func (y *player) flush() int {
	many := 0
	for y.unit() {
		many++
	}
	return many
}

func (y *player) unit() bool {
	r := &y.root
	if !r.Busy {
		wants := wantWants(r.Line)
		if wants == 0 {
			return false
		}
		r.Lane = map[int]int{1: 0, 2: 1, 3: 0, 4: 2, 5: 0, 6: 1, 7: 0}[wants]
		r.Busy, r.Seen = true, len(r.Line.Rest)
		y.s = wantShow(r.Line, []int{1, 2, 4}[r.Lane])
		y.event(impl.EventStart, r.Lane)
	}
	y.units++
	if len(wantWork(y.p, nil, y.s, y.units).Open) == 0 {
		y.show()
	}
	return true
}

func (y *player) show() {
	r := &y.root
	line := wantRest(lineOf(r.Line.Base, r.Line.Rest[:r.Seen]...), []int{1, 2, 4}[r.Lane])
	line.Rest = slices.Concat(line.Rest, r.Line.Rest[r.Seen:])
	r.Drafts = wantDrafts(y.p, y.s)
	var base []impl.Cell
	for _, c := range cellsOf(r.Drafts) {
		for _, has := range line.Base {
			if slices.Equal(has.Place, c.Place) {
				c = has
			}
		}
		base = append(base, c)
	}
	r.Line = lineOf(base, slices.DeleteFunc(line.Rest, func(u impl.Update) bool {
		return !slices.ContainsFunc(base, func(c impl.Cell) bool { return slices.Equal(c.Place, u.Place) })
	})...)
	y.event(impl.EventShow, r.Lane)
	y.idle()
	y.shown = append(y.shown, r.Drafts)
}

func (y *player) whole() impl.Root {
	r := y.root
	if r.Busy {
		r.Work = wantWork(y.p, r.Drafts, y.s, y.units)
	}
	return r
}

// checkPlayed checks all that is told of a screen behind turns.
func checkPlayed(t *testing.T, p []impl.Comp, list []impl.Turn) *player {
	t.Helper()
	y := play(p, list)
	checkSame(t, "RootRun", impl.RootRun(p, list), y.whole())
	tree := elem(0, impl.NoKey, scene{p, cellsOf(y.root.Drafts)}.root().trees()...)
	checkSame(t, "RootTree", impl.RootTree(p, list), tree)
	checkSame(t, "RootStore", impl.RootStore(p, list), cellsOf(y.root.Drafts))
	if units, want := impl.RootUnits(p, list), play(p, list).flush(); units != want {
		t.Errorf("RootUnits(%v, %v) = %d, not %d", p, list, units, want)
	}
	return y
}

func checkNotPlayed(t *testing.T, what string, p []impl.Comp, list []impl.Turn) {
	t.Helper()
	if r := impl.RootRun(p, list); !same(r, impl.Root{}) {
		t.Errorf("%s: RootRun(%v, %v) = %v", what, p, list, r)
	}
	if tree := impl.RootTree(p, list); !same(tree, impl.Tree{}) {
		t.Errorf("%s: RootTree is %s", what, brief(tree))
	}
	if s, units := impl.RootStore(p, list), impl.RootUnits(p, list); len(s) > 0 || units != -1 {
		t.Errorf("%s: RootStore is %v, RootUnits %d", what, s, units)
	}
}

func checkRootTree(t *testing.T, p []impl.Comp, list []impl.Turn, want string) {
	t.Helper()
	if s := impl.TreeText(impl.RootTree(p, list)); s != want {
		t.Errorf("RootTree(%v, %v) = %q, not %q", p, list, s, want)
	}
	checkPlayed(t, p, list)
}

func checkLog(t *testing.T, p []impl.Comp, list []impl.Turn, want ...impl.Event) {
	t.Helper()
	checkPlayed(t, p, list)
	if log := impl.RootRun(p, list).Log; !slices.Equal(log, want) {
		t.Errorf("the log behind %v is %v, not %v", list, log, want)
	}
}

func lost(lane int) impl.Event    { return impl.Event{Kind: impl.EventLost, Lane: lane} }
func dropped(lane int) impl.Event { return impl.Event{Kind: impl.EventDrop, Lane: lane} }
func started(lane int) impl.Event { return impl.Event{Kind: impl.EventStart, Lane: lane} }
func ended(lane int) impl.Event   { return impl.Event{Kind: impl.EventShow, Lane: lane} }

// listProg shows a number, and as many components as the second state tells, each of which shows its own state; it is drawn in as many units as there are components, and one.
func listProg() []impl.Comp {
	list := eachOf(steps(state(1)), nil, callOf(1))
	return []impl.Comp{
		{States: []impl.Value{num(5), num(2)}, Body: elemOf(1, textOf(steps(state(0))), list)},
		{States: []impl.Value{num(0)}, Body: textOf(steps(state(0)))},
	}
}

// atTurn is the place of one of the components of listProg.
func atTurn(n int) []impl.Slot { return place(slot(0, 0), slot(1, 0), slot(0, n)) }

func listed(n int) impl.Update { return setTo(nil, 1, 0, number(n)...) }

// bumped adds a number to the state of one of the components of listProg.
func bumped(turn, n, lane int) impl.Update {
	u := added(n, lane)
	u.Place = atTurn(turn)
	return u
}

// randomTurns posts updates of what a program draws, works and flushes.
func randomTurns(r *rand.Rand, p []impl.Comp, most int) []impl.Turn {
	var list []impl.Turn
	s := wantStore(p, nil)
	for range r.IntN(most + 1) {
		switch n := r.IntN(10); {
		case n < 6:
			u := randomUpdate(r, s)
			if u.Lane < 0 && r.IntN(4) > 0 {
				u.Lane = 2
			}
			if r.IntN(3) == 0 {
				u.Place = nil
			}
			list = append(list, posted(u))
		case n < 9:
			list = append(list, working(r.IntN(5)))
		default:
			list = append(list, flushed())
		}
		if r.IntN(6) == 0 {
			s = cellsOf(play(p, list).root.Drafts)
		}
	}
	return list
}

func eachScript(many int, visit func(r *rand.Rand, p []impl.Comp, list []impl.Turn)) {
	eachLively(many, func(r *rand.Rand, p []impl.Comp, _ []impl.Cell) {
		most := 14
		if r.IntN(8) == 0 {
			most = 58
		}
		visit(r, p, randomTurns(r, p, most))
	})
}

// invalidTurns are not valid for one reason each.
func invalidTurns() []impl.Turn {
	var list []impl.Turn
	for _, u := range invalidUpdates() {
		list = append(list, posted(u), impl.Turn{Kind: impl.TurnWork, Update: u}, impl.Turn{Kind: impl.TurnFlush, Update: u})
	}
	for _, kind := range []int{math.MinInt, -1, 3, 4, math.MaxInt} {
		list = append(list, impl.Turn{Kind: kind}, impl.Turn{Kind: kind, Units: 1}, impl.Turn{Kind: kind, Update: added(1, 0)})
	}
	for _, n := range []int{math.MinInt, -2, -1, 301, 302, 1 << 32, math.MaxInt} {
		list = append(list, working(n))
	}
	for _, n := range []int{math.MinInt, -1, 1, 300, 301} {
		list = append(list, impl.Turn{Kind: impl.TurnPost, Units: n, Update: added(1, 0)}, impl.Turn{Kind: impl.TurnFlush, Units: n})
	}
	for _, u := range []impl.Update{added(1, 0), {Place: place(slot(0, 0))}, {State: 1}, {Form: one()}, {Lane: 1}, {Lane: -1}} {
		list = append(list, impl.Turn{Kind: impl.TurnWork, Units: 1, Update: u}, impl.Turn{Kind: impl.TurnFlush, Update: u})
	}
	return slices.DeleteFunc(list, func(x impl.Turn) bool {
		return x.Kind > 0 && x.Kind < 3 && x.Units == 0 && same(x.Update, impl.Update{})
	})
}

func TestRootConstants(t *testing.T) {
	got := []int{impl.MaxScript, impl.MaxLog, impl.TurnPost, impl.TurnWork, impl.TurnFlush, impl.EventLost, impl.EventDrop, impl.EventStart, impl.EventShow}
	if want := []int{60, 60, 0, 1, 2, 0, 1, 2, 3}; !slices.Equal(got, want) {
		t.Errorf("the constants are %v, not %v", got, want)
	}
}

func TestRootWithoutTurns(t *testing.T) {
	for _, p := range [][]impl.Comp{listProg(), draftsProg(), fullProg(), progOf(textOf(one()))} {
		for _, list := range [][]impl.Turn{nil, {}, {flushed()}, {working(0)}, {working(300)}, {working(1), flushed(), working(7)}} {
			checkPlayed(t, p, list)
			checkSame(t, "the screen", impl.RootRun(p, list), impl.Root{Line: lineOf(wantStore(p, nil)), Drafts: wantDrafts(p, nil)})
		}
	}
	checkRootTree(t, listProg(), nil, "(t0 (t1 '5' '0' '0'))")
}

func TestRootOfMaxScript(t *testing.T) {
	p := listProg()
	list := slices.Repeat(turns(posted(added(1, 0)), flushed()), 40)
	for _, many := range []int{59, 60} {
		checkPlayed(t, p, list[:many])
	}
	checkRootTree(t, p, list[:60], "(t0 (t1 '35' '0' '0'))")
	for _, many := range []int{61, 62, 80} {
		checkNotPlayed(t, "more turns than there can be", p, list[:many])
		checkNotPlayed(t, "more turns than there can be", p, make([]impl.Turn, many))
		checkNotPlayed(t, "more turns than there can be", p, slices.Repeat(turns(flushed()), many))
	}
}

func TestRootOfWhatIsNotValid(t *testing.T) {
	for _, x := range invalidTurns() {
		checkNotPlayed(t, "a turn that is not valid", listProg(), turns(x))
		checkNotPlayed(t, "a turn that is not valid", listProg(), turns(posted(added(1, 0)), flushed(), x))
		checkNotPlayed(t, "a turn that is not valid", listProg(), turns(x, flushed()))
	}
	checkNotPlayed(t, "the zero turn", listProg(), turns(impl.Turn{}))
	for _, p := range invalidProgs() {
		checkNotPlayed(t, "a program that is not valid", p, nil)
		checkNotPlayed(t, "a program that is not valid", p, turns(posted(added(1, 0)), flushed()))
	}
	// Slices without elements are none.
	empty := impl.Turn{Kind: impl.TurnWork, Units: 1, Update: impl.Update{Place: place(), Form: steps()}}
	checkPlayed(t, listProg(), turns(posted(added(1, 0)), empty))
}

func TestRootUnits(t *testing.T) {
	p := listProg()
	for n := range 6 {
		list := turns(posted(added(1, 0)), working(n))
		checkPlayed(t, p, list)
		if units := impl.RootUnits(p, list); units != max(0, 3-n) {
			t.Errorf("RootUnits(%v) = %d", list, units)
		}
	}
	list := turns(posted(added(1, 2)), posted(added(1, 0)), posted(added(1, 1)))
	if units := impl.RootUnits(p, list); units != 9 {
		t.Errorf("RootUnits(%v) = %d, not 9", list, units)
	}
	checkRootTree(t, p, append(list, working(300)), "(t0 (t1 '8' '0' '0'))")
	checkRootTree(t, p, append(list, working(5)), "(t0 (t1 '6' '0' '0'))")
	checkRootTree(t, p, append(list, working(6)), "(t0 (t1 '7' '0' '0'))")
	checkRootTree(t, p, append(list, flushed()), "(t0 (t1 '8' '0' '0'))")
}

func TestRootLosesUpdates(t *testing.T) {
	p := listProg()
	checkLog(t, p, turns(posted(added(1, impl.LaneDone)), flushed()), lost(-1))
	for lane := range 3 {
		checkLog(t, p, turns(posted(bumped(2, 1, lane)), flushed()), lost(lane))
		checkLog(t, p, turns(posted(setTo(place(slot(0, 0)), 0, lane, one()...)), working(9)), lost(lane))
	}
	// One that changes nothing is not lost.
	checkLog(t, p, turns(posted(setTo(nil, 2, 1, one()...)), flushed()), started(1), ended(1))
	full := slices.Repeat(turns(posted(added(1, 1))), 40)
	checkLog(t, p, full)
	checkLog(t, p, append(slices.Clone(full), posted(added(1, 2)), posted(added(1, 0))), lost(2), lost(0))
	// One that is lost throws no work away, and there is room behind a work.
	list := append(full[:39:39], working(1), posted(added(2, 1)), posted(added(9, 0)), flushed(), posted(added(1, 0)), flushed())
	checkLog(t, p, list, started(1), lost(0), ended(1), started(1), ended(1), started(0), ended(0))
	checkRootTree(t, p, list, "(t0 (t1 '47' '0' '0'))")
}

func TestRootThrowsWorkAway(t *testing.T) {
	p := listProg()
	begun := turns(posted(added(1, 1)), working(2))
	for lane := range 3 {
		list := append(slices.Clone(begun), posted(times(2, lane)))
		r := impl.RootRun(p, list)
		if r.Busy != (lane > 0) || len(r.Work.Done) != 2*truth(lane > 0).Num || len(r.Line.Rest) != 2 {
			t.Errorf("an update of the lane %d is posted: %v", lane, r)
		}
		checkPlayed(t, p, list)
	}
	checkLog(t, p, append(slices.Clone(begun), posted(times(2, 0)), flushed()), started(1), dropped(0), started(0), ended(0), started(1), ended(1))
	checkLog(t, p, append(slices.Clone(begun), posted(times(2, 1)), flushed()), started(1), ended(1), started(1), ended(1))
	checkLog(t, p, append(slices.Clone(begun), posted(times(2, 2)), flushed()), started(1), ended(1), started(2), ended(2))
	// Again and again: each time it is begun with all that waits.
	list := turns(posted(added(1, 2)), working(2), posted(added(2, 1)), working(2), posted(added(4, 0)), working(2), posted(added(8, 0)), flushed())
	checkLog(t, p, list, started(2), dropped(1), started(1), dropped(0), started(0), ended(0), started(0), ended(0), started(1), ended(1), started(2), ended(2))
	checkRootTree(t, p, list, "(t0 (t1 '20' '0' '0'))")
	// An idle screen has nothing to throw away, and what was shown is not thrown away.
	checkLog(t, p, turns(posted(added(1, 1)), posted(added(1, 0))))
	checkLog(t, p, turns(posted(added(1, 1)), working(3), posted(added(1, 0))), started(1), ended(1))
}

func TestRootRebasesWhatWaits(t *testing.T) {
	p := listProg()
	list := turns(posted(added(1, 2)), posted(times(2, 0)), working(3))
	checkRootTree(t, p, list, "(t0 (t1 '10' '0' '0'))")
	r := impl.RootRun(p, list)
	checkSame(t, "the line", r.Line, lineOf([]impl.Cell{cell(nil, num(5), num(2)), cell(atTurn(0), num(0)), cell(atTurn(1), num(0))}, added(1, 2), times(2, -1)))
	checkRootTree(t, p, append(list, flushed()), "(t0 (t1 '12' '0' '0'))")
	// What was posted while the work went on waits behind it.
	list = turns(posted(added(1, 1)), working(1), posted(times(3, 1)), posted(times(2, 2)), working(2))
	checkRootTree(t, p, list, "(t0 (t1 '6' '0' '0'))")
	checkSame(t, "what waits", impl.RootRun(p, list).Line.Rest, []impl.Update{times(3, 1), times(2, 2)})
	checkRootTree(t, p, append(list, working(3)), "(t0 (t1 '18' '0' '0'))")
	checkRootTree(t, p, append(list, flushed()), "(t0 (t1 '36' '0' '0'))")
}

func TestRootOfComponentsThatComeAndGo(t *testing.T) {
	p := listProg()
	// The second component goes, with the update that waits for it, and comes with its first state.
	list := turns(posted(bumped(1, 7, 1)), posted(bumped(0, 3, 1)), posted(listed(1)), working(2))
	checkRootTree(t, p, list, "(t0 (t1 '5' '0'))")
	checkSame(t, "what waits", impl.RootRun(p, list).Line.Rest, []impl.Update{bumped(0, 3, 1)})
	list = append(list, posted(bumped(1, 7, 1)), posted(listed(3)), flushed())
	checkRootTree(t, p, list, "(t0 (t1 '5' '3' '0' '0'))")
	list = append(list, posted(bumped(1, 7, 2)), posted(bumped(2, 8, 1)), flushed())
	checkRootTree(t, p, list, "(t0 (t1 '5' '3' '7' '8'))")
	checkRootTree(t, p, append(list, posted(listed(0)), flushed(), posted(listed(2)), flushed()), "(t0 (t1 '5' '0' '0'))")
	// An update that was shown, and waits behind one that was not, goes with its component.
	list = turns(posted(bumped(1, 7, 2)), posted(bumped(1, 8, 0)), working(3))
	checkRootTree(t, p, list, "(t0 (t1 '5' '0' '8'))")
	gone := append(slices.Clone(list), posted(listed(1)), working(3), posted(listed(2)), flushed())
	checkRootTree(t, p, gone, "(t0 (t1 '5' '0' '0'))")
	checkRootTree(t, p, append(list, flushed()), "(t0 (t1 '5' '0' '15'))")
	// One that comes by a lane is there for updates then, and goes when the order shows it differently.
	late := turns(posted(setTo(nil, 1, 2, number(1)...)), posted(setTo(nil, 1, 1, state(1), number(2)[0], do(impl.OpAdd))), working(5))
	checkRootTree(t, p, late, "(t0 (t1 '5' '0' '0' '0' '0'))")
	late = append(late, posted(bumped(3, 9, 0)), working(5))
	checkRootTree(t, p, late, "(t0 (t1 '5' '0' '0' '0' '9'))")
	checkRootTree(t, p, append(late, posted(bumped(3, 1, 2)), flushed()), "(t0 (t1 '5' '0' '0' '0'))")
}

func TestRootWhileItWorks(t *testing.T) {
	p := listProg()
	list := turns(posted(added(1, 1)), posted(listed(4)), posted(added(1, 2)), working(4), posted(added(2, 2)))
	checkPlayed(t, p, list)
	r := impl.RootRun(p, list)
	if !r.Busy || r.Lane != 0 || r.Seen != 3 || len(r.Line.Rest) != 4 || len(r.Work.Done) != 4 || len(r.Work.Open) != 1 || r.Work.Many != 2 {
		t.Errorf("RootRun(%v) = %v", list, r)
	}
	if s := impl.TreeText(impl.RootTree(p, list)); s != "(t0 (t1 '5' '0' '0'))" {
		t.Errorf("RootTree = %s", s)
	}
	checkWorkOk(t, "the work of a screen", p, r.Work, true)
	for n := range 12 {
		checkPlayed(t, p, append(slices.Clone(list), working(n)))
	}
}

func TestRootLogOfMaxLog(t *testing.T) {
	p := listProg()
	round := turns(posted(added(1, 0)), posted(added(1, 1)), posted(added(1, 2)), flushed())
	list := slices.Repeat(round, 15)
	y := checkPlayed(t, p, list)
	r := impl.RootRun(p, list)
	if len(r.Log) != 60 || len(y.log) != 90 || !slices.Equal(r.Log, y.log[:60]) {
		t.Errorf("the log of %d events has %d: %v", len(y.log), len(r.Log), r.Log)
	}
	checkPlayed(t, p, list[:40])
	checkPlayed(t, p, list[:39])
	checkPlayed(t, p, append(list[:40:40], posted(added(1, -1))))
	checkRootTree(t, p, list, "(t0 (t1 '50' '0' '0'))")
}

func TestRootsChangeAndShareNothing(t *testing.T) {
	eachScript(150, func(_ *rand.Rand, p []impl.Comp, list []impl.Turn) {
		for len(list) > 0 && !impl.RootRun(p, list).Busy && len(list) > 4 {
			list = list[:len(list)-1]
		}
		copied := slices.Clone(list)
		r := impl.RootRun(p, list)
		checkUnshared(t, r, p, list)
		checkUnshared(t, impl.RootTree(p, list), p, list)
		checkUnshared(t, impl.RootStore(p, list), p, list)
		impl.RootUnits(p, list)
		checkSame(t, "the turns", list, copied)
		checkPlayed(t, p, list)
	})
	p := listProg()
	u := added(1, 1)
	u.Form = append(make([]impl.Step, 0, 9), u.Form...)
	list := turns(posted(u), posted(u), posted(bumped(0, 1, 0)), working(2), posted(u))
	checkUnshared(t, impl.RootRun(p, list), p, list)
	checkUnshared(t, impl.RootRun(p, append(list, working(1))), p, list)
}

func TestRootsOfRandomTurns(t *testing.T) {
	found := map[string]int{}
	eachScript(2000, func(r *rand.Rand, p []impl.Comp, list []impl.Turn) {
		y := checkPlayed(t, p, list)
		found["busy"] += truth(y.root.Busy).Num
		found["seen less than all"] += truth(y.root.Busy && y.root.Seen < len(y.root.Line.Rest)).Num
		found["done that waits"] += truth(slices.ContainsFunc(y.root.Line.Rest, func(u impl.Update) bool { return u.Lane < 0 })).Num
		for _, e := range y.log {
			found[[]string{"lost", "drop", "start", "show"}[e.Kind]]++
		}
		for i := range y.shown[1:] {
			found["other places"] += truth(len(y.shown[i]) != len(y.shown[i+1])).Num
		}
	})
	for what, many := range found {
		if many < 40 {
			t.Errorf("%s: %d", what, many)
		}
	}
}

func TestPromise45WhatAScreenShowsIsDrawnAnewFromItsStore(t *testing.T) {
	eachScript(1000, func(_ *rand.Rand, p []impl.Comp, list []impl.Turn) {
		checkSame(t, "DrawTree", impl.DrawTree(p, impl.RootStore(p, list)), impl.RootTree(p, list))
		checkSame(t, "the tests' own tree", wantTree(p, impl.RootStore(p, list)), impl.RootTree(p, list))
	})
}

func TestPromise46BehindAFlushNothingWaits(t *testing.T) {
	eachScript(1000, func(_ *rand.Rand, p []impl.Comp, list []impl.Turn) {
		once, twice := append(slices.Clone(list), flushed()), append(slices.Clone(list), flushed(), flushed())
		r := impl.RootRun(p, once)
		if r.Busy || impl.LineWants(r.Line) != 0 || len(r.Line.Rest) > 0 || impl.RootUnits(p, once) != 0 {
			t.Errorf("behind a flush, the screen is %v", r)
		}
		checkSame(t, "the tree", impl.RootTree(p, twice), impl.RootTree(p, once))
		checkSame(t, "the screen", impl.RootRun(p, twice), r)
	})
}

func TestPromise47TheRootsStatesAreAllUpdatesInTheOrderInWhichTheyWerePosted(t *testing.T) {
	found := 0
	eachScript(1500, func(_ *rand.Rand, p []impl.Comp, list []impl.Turn) {
		list = append(list, flushed())
		if play(p, list).lost > 0 {
			return
		}
		s := impl.DrawStore(p, nil)[:1]
		for _, x := range list {
			if x.Kind == impl.TurnPost && len(x.Update.Place) == 0 {
				s = impl.StoreRun(s, []impl.Update{x.Update})
			}
		}
		found += truth(!same(s, wantStore(p, nil)[:1])).Num
		checkSame(t, "the root's states", impl.RootStore(p, list)[:1], s)
	})
	if found < 300 {
		t.Errorf("the root of %d screens has other states", found)
	}
}

func TestPromise48AFlushDoesAsManyUnitsAsThereAre(t *testing.T) {
	eachScript(1000, func(_ *rand.Rand, p []impl.Comp, list []impl.Turn) {
		units := impl.RootUnits(p, list)
		worked, flush := append(slices.Clone(list), working(min(units, 300)), working(max(0, units-300))), append(slices.Clone(list), flushed())
		if left := impl.RootUnits(p, worked); left != 0 {
			t.Errorf("behind %d units there are %d more", units, left)
		}
		checkSame(t, "the tree", impl.RootTree(p, worked), impl.RootTree(p, flush))
		checkSame(t, "the screen", impl.RootRun(p, worked), impl.RootRun(p, flush))
		if units > 0 && units <= 300 {
			worked = append(slices.Clone(list), working(units-1))
			if left := impl.RootUnits(p, worked); left != 1 {
				t.Errorf("behind %d units there are %d more, not one", units-1, left)
			}
		}
	})
}

func TestPromise97HoweverWorkIsCutIntoPiecesTheSameIsShown(t *testing.T) {
	eachScript(1000, func(r *rand.Rand, p []impl.Comp, list []impl.Turn) {
		var cut []impl.Turn
		for _, x := range list {
			if x.Kind == impl.TurnWork {
				half := r.IntN(x.Units + 1)
				cut = append(cut, working(half))
				x.Units -= half
			}
			cut = append(cut, x)
		}
		if len(cut) > 60 {
			return
		}
		whole, halves := impl.RootRun(p, list), impl.RootRun(p, cut)
		whole.Log, halves.Log = nil, nil
		checkSame(t, "the screen", halves, whole)
		checkPlayed(t, p, cut)
	})
}

// otherwise returns turns with each update changed, and without those turns that are not to be kept.
func otherwise(list []impl.Turn, update func(u *impl.Update), keep func(i int) bool) []impl.Turn {
	var out []impl.Turn
	for i, x := range list {
		if x.Kind == impl.TurnPost {
			update(&x.Update)
		}
		if keep(i) {
			out = append(out, x)
		}
	}
	return out
}

func TestPromise98BehindAFlushLanesAreNotSeenInTheRoot(t *testing.T) {
	found := 0
	eachScript(1500, func(_ *rand.Rand, p []impl.Comp, list []impl.Turn) {
		list = append(list, flushed())
		all := otherwise(list, func(u *impl.Update) { u.Lane = 0 }, func(int) bool { return true })
		if play(p, list).lost > 0 || play(p, all).lost > 0 {
			return
		}
		found++
		checkSame(t, "the root's states", impl.RootStore(p, all)[:1], impl.RootStore(p, list)[:1])
	})
	if found < 300 {
		t.Errorf("%d screens lose no update", found)
	}
}

func TestPromise99WorkBetweenUpdatesOfOneLaneIsNotSeenBehindAFlushInTheRoot(t *testing.T) {
	found := 0
	eachScript(1500, func(r *rand.Rand, p []impl.Comp, list []impl.Turn) {
		lane := r.IntN(3)
		list = append(otherwise(list, func(u *impl.Update) { u.Lane = lane }, func(int) bool { return true }), flushed())
		posts := otherwise(list, func(*impl.Update) {}, func(i int) bool { return list[i].Kind == impl.TurnPost || i == len(list)-1 })
		if play(p, list).lost > 0 || play(p, posts).lost > 0 {
			return
		}
		found++
		checkSame(t, "the root's states", impl.RootStore(p, posts)[:1], impl.RootStore(p, list)[:1])
	})
	if found < 300 {
		t.Errorf("%d screens lose no update", found)
	}
}

func TestPromise100WhatIsShownComesFromWhatWasShownByEdits(t *testing.T) {
	eachScript(1000, func(_ *rand.Rand, p []impl.Comp, list []impl.Turn) {
		first, last := impl.RootTree(p, nil), impl.RootTree(p, list)
		checkEdits(t, first, last)
		if tree, ok := impl.TreePatched(first, impl.TreeEdits(first, last)); !ok || !same(tree, last) {
			t.Errorf("TreePatched(%s) = %s, not %s", brief(first), brief(tree), brief(last))
		}
	})
}
