package tests

import (
	"math"
	"math/rand/v2"
	"slices"
	"testing"

	"loop.example/drawnanew/impl"
)

// resumed is the tests' own screen that goes on from a root.
func resumed(p []impl.Comp, r impl.Root) *player {
	y := &player{p: p, root: r, units: len(r.Work.Done), s: r.Work.Store, log: slices.Clone(r.Log), shown: [][]impl.Draft{r.Drafts}}
	y.root.Work = impl.Work{}
	return y
}

// wantRootOk asks each thing of a root that the chapter names; it takes LineOk and the tests' own drafts and works.
func wantRootOk(p []impl.Comp, r impl.Root) bool {
	if !impl.ProgOk(p) || !impl.LineOk(r.Line) || !wantDraftsOk(p, r.Drafts) || !wantLogOk(r.Log) {
		return false
	}
	bare := func(s []impl.Cell) []impl.Cell {
		s = slices.Clone(s)
		for i, c := range s {
			s[i].States = make([]impl.Value, len(c.States))
		}
		return s
	}
	if !same(bare(r.Line.Base), bare(cellsOf(r.Drafts))) {
		return false
	}
	for _, u := range r.Line.Rest {
		if _, ok := impl.StoreGet(r.Line.Base, u.Place); !ok {
			return false
		}
	}
	if !r.Busy {
		return r.Lane == 0 && r.Seen == 0 && same(r.Work, impl.Work{})
	}
	return wantBusyOk(p, r)
}

func wantBusyOk(p []impl.Comp, r impl.Root) bool {
	if r.Seen < 1 || r.Seen > len(r.Line.Rest) || len(r.Work.Open) == 0 || r.Lane < 0 || r.Lane > 2 {
		return false
	}
	seen := lineOf(r.Line.Base, r.Line.Rest[:r.Seen]...)
	waits := func(u impl.Update) bool { return u.Lane == r.Lane }
	ahead := func(u impl.Update) bool { return u.Lane >= 0 && u.Lane < r.Lane }
	if !slices.ContainsFunc(seen.Rest, waits) || slices.ContainsFunc(seen.Rest, ahead) {
		return false
	}
	w := r.Work
	return same(w.Old, r.Drafts) && same(w.Store, wantShow(seen, []int{1, 2, 4}[r.Lane])) && same(w, wantWork(p, w.Old, w.Store, len(w.Done)))
}

func wantDraftsOk(p []impl.Comp, list []impl.Draft) bool {
	return impl.StoreOk(cellsOf(list)) && same(wantDrafts(p, cellsOf(list)), list)
}

func wantLogOk(log []impl.Event) bool {
	for _, e := range log {
		if e.Kind < 0 || e.Kind > 3 || e.Lane < -1 || e.Lane > 2 {
			return false
		}
	}
	return len(log) <= 60
}

func checkRootOk(t *testing.T, what string, p []impl.Comp, r impl.Root, want bool) {
	t.Helper()
	if impl.RootOk(p, r) != want || wantRootOk(p, r) != want {
		t.Errorf("%s: RootOk(%v, %v) is %v, and %v by the tests", what, p, r, impl.RootOk(p, r), wantRootOk(p, r))
	}
	if want {
		checkSame(t, what+": RootGo without turns", impl.RootGo(p, r, nil), r)
		checkGone(t, p, r, turns(working(1), flushed()))
		return
	}
	for _, list := range [][]impl.Turn{nil, turns(flushed())} {
		checkSame(t, what+": RootGo", impl.RootGo(p, r, list), impl.Root{})
	}
	checkSame(t, what+": RootIdle", impl.RootIdle(p, r), impl.Root{})
}

// checkGone checks a valid root behind turns, and without its work.
func checkGone(t *testing.T, p []impl.Comp, r impl.Root, list []impl.Turn) {
	t.Helper()
	y := resumed(p, r)
	y.take(list)
	checkSame(t, "RootGo", impl.RootGo(p, r, list), y.whole())
	idle := resumed(p, r)
	idle.idle()
	checkSame(t, "RootIdle", impl.RootIdle(p, r), idle.whole())
}

// rootsOf are screens of listProg: at first, behind posts, busy behind one unit and behind several ones, with updates that came then, and behind a flush.
func rootsOf() map[string][]impl.Turn {
	return map[string][]impl.Turn{
		"at first":      nil,
		"behind posts":  turns(posted(added(1, 2)), posted(bumped(1, 3, 1)), posted(added(2, 1))),
		"busy":          turns(posted(added(1, 2)), posted(bumped(1, 3, 1)), posted(added(2, 1)), working(1)),
		"busy for long": turns(posted(bumped(0, 5, 2)), posted(listed(3)), working(4), posted(times(3, 1)), posted(listed(4)), working(2), posted(added(4, 1)), posted(bumped(0, 1, 2))),
		"with a rest":   turns(posted(added(1, 2)), posted(times(3, 0)), working(3), posted(bumped(1, 3, 1))),
		"behind one":    turns(posted(added(1, 2)), posted(times(3, 0)), posted(listed(3)), flushed()),
	}
}

// changedRoots calls with the roots of listProg, changed in one thing each.
func changedRoots(visit func(what string, r impl.Root)) {
	for what, list := range rootsOf() {
		change := func(thing string, by func(r *impl.Root)) {
			r := impl.RootRun(listProg(), list)
			by(&r)
			visit(what+": "+thing, r)
		}
		changedLines(change)
		changedBusiness(change)
		changedWorks(change)
		changedDrafts(func() []impl.Draft { return impl.RootRun(listProg(), list).Drafts }, func(thing string, drafts []impl.Draft) {
			change("drafts with "+thing, func(r *impl.Root) { r.Drafts = drafts })
		})
	}
}

type rootChange func(thing string, by func(r *impl.Root))

func changedLines(change rootChange) {
	change("nothing", func(*impl.Root) {})
	for i := range 3 {
		change("a place less", func(r *impl.Root) { r.Line.Base = slices.Delete(r.Line.Base, i, i+1) })
		change("a state more", func(r *impl.Root) { r.Line.Base[i].States = append(r.Line.Base[i].States, num(1)) })
		change("a state less", func(r *impl.Root) { r.Line.Base[i].States = r.Line.Base[i].States[1:] })
		change("another state", func(r *impl.Root) { r.Line.Base[i].States[0] = text("new") })
		change("a state that is not valid", func(r *impl.Root) { r.Line.Base[i].States[0] = num(5000) })
	}
	change("a place more", func(r *impl.Root) { r.Line.Base = append(r.Line.Base, cell(place(slot(3, 3)))) })
	change("a place more within", func(r *impl.Root) { r.Line.Base = slices.Insert(r.Line.Base, 1, cell(place(slot(0, 0)), num(0))) })
	change("another place", func(r *impl.Root) { r.Line.Base[2].Place = place(slot(3, 3)) })
	change("places out of order", func(r *impl.Root) { r.Line.Base[1], r.Line.Base[2] = r.Line.Base[2], r.Line.Base[1] })
	for lane := -1; lane < 3; lane++ {
		change("an update more", func(r *impl.Root) { r.Line.Rest = append(r.Line.Rest, added(7, lane)) })
		change("an update ahead", func(r *impl.Root) { r.Line.Rest = slices.Insert(r.Line.Rest, 0, added(7, lane)) })
		change("an update of another place", func(r *impl.Root) { r.Line.Rest = append(r.Line.Rest, setTo(place(slot(0, 0)), 0, lane, one()...)) })
	}
	change("an update ahead of another place", func(r *impl.Root) {
		r.Line.Rest = slices.Insert(r.Line.Rest, 0, setTo(place(slot(0, 0)), 0, 1, one()...))
	})
	for _, u := range invalidUpdates() {
		change("an update that is not valid", func(r *impl.Root) { r.Line.Rest = append(r.Line.Rest, u) })
	}
	for _, many := range []int{39, 40, 41} {
		change("many updates", func(r *impl.Root) {
			r.Line.Rest = append(r.Line.Rest, slices.Repeat([]impl.Update{added(1, 2)}, many-len(r.Line.Rest))...)
		})
	}
	for kind := -1; kind <= 4; kind++ {
		for lane := -2; lane <= 3; lane++ {
			change("an event more", func(r *impl.Root) { r.Log = append(r.Log, impl.Event{Kind: kind, Lane: lane}) })
			change("an event ahead", func(r *impl.Root) { r.Log = slices.Insert(r.Log, 0, impl.Event{Kind: kind, Lane: lane}) })
		}
	}
	for _, many := range []int{59, 60, 61, 200} {
		change("many events", func(r *impl.Root) { r.Log = slices.Repeat([]impl.Event{lost(-1)}, many) })
	}
	change("no events", func(r *impl.Root) { r.Log = nil })
	change("drafts of another store", func(r *impl.Root) {
		s := cellsOf(r.Drafts)
		s[0].States = []impl.Value{num(77), s[0].States[1]}
		r.Drafts = impl.DrawDrafts(listProg(), s)
	})
	change("drafts of another store, in the work, too", func(r *impl.Root) {
		s := cellsOf(r.Drafts)
		s[0].States = []impl.Value{num(77), s[0].States[1]}
		r.Drafts = impl.DrawDrafts(listProg(), s)
		if r.Busy {
			r.Work = impl.WorkNew(listProg(), r.Drafts, r.Work.Store)
		}
	})
	change("drafts of other places", func(r *impl.Root) { r.Drafts = impl.DrawDrafts(listProg(), focusStore(1, 1, 1)) })
}

func changedBusiness(change rootChange) {
	change("busy or not", func(r *impl.Root) { r.Busy = !r.Busy })
	change("idle, with a work", func(r *impl.Root) { r.Busy, r.Lane, r.Seen = false, 0, 0 })
	change("idle, with a lane", func(r *impl.Root) { r.Busy, r.Seen, r.Work = false, 0, impl.Work{} })
	change("idle, with what is seen", func(r *impl.Root) { r.Busy, r.Lane, r.Work = false, 0, impl.Work{} })
	change("idle", func(r *impl.Root) { r.Busy, r.Lane, r.Seen, r.Work = false, 0, 0, impl.Work{} })
	for _, n := range []int{math.MinInt, -2, -1, 0, 1, 2, 3, 4, 5, 40, 41, 63, 64, 65, math.MaxInt} {
		change("another lane", func(r *impl.Root) { r.Lane = n })
		change("seen by another number", func(r *impl.Root) { r.Seen = n })
	}
	// All that a lane needs but that it is the least one that waits.
	for lane := range 3 {
		for seen := range 5 {
			change("busy for a lane", func(r *impl.Root) {
				r.Busy, r.Lane, r.Seen = true, lane, min(seen, len(r.Line.Rest))
				line := lineOf(r.Line.Base, r.Line.Rest[:r.Seen]...)
				r.Work = impl.WorkSteps(listProg(), impl.WorkNew(listProg(), r.Drafts, impl.LineShow(line, 1<<lane)), 1)
			})
		}
	}
	// Nothing waits at all.
	for _, lane := range []int{-1, 0, 1, 2, 3, 64} {
		change("busy for none", func(r *impl.Root) {
			r.Busy, r.Lane, r.Seen = true, lane, 1
			r.Line.Rest = []impl.Update{added(1, impl.LaneDone)}
			r.Work = impl.WorkSteps(listProg(), impl.WorkNew(listProg(), r.Drafts, impl.LineShow(r.Line, 0)), 1)
		})
	}
}

func changedWorks(change rootChange) {
	p := listProg()
	for n := range 7 {
		change("a work of other units", func(r *impl.Root) { r.Work = impl.WorkSteps(p, impl.WorkNew(p, r.Work.Old, r.Work.Store), n) })
	}
	for _, s := range [][]impl.Cell{nil, focusStore(8, 2, 0)[:1], {cell(nil, num(8), num(2))}} {
		change("a work of another store", func(r *impl.Root) { r.Work = impl.WorkSteps(p, impl.WorkNew(p, r.Drafts, s), 1) })
		change("a work of other old drafts", func(r *impl.Root) {
			r.Work = impl.WorkSteps(p, impl.WorkNew(p, impl.DrawDrafts(p, []impl.Cell{cell(nil, num(88), num(2))}), r.Work.Store), 1)
		})
		change("another store in the work", func(r *impl.Root) { r.Work.Store = s })
	}
	// It draws the same: without a cell, the component has its first states.
	change("a work of a store with another place", func(r *impl.Root) {
		if s := slices.Clone(r.Work.Store); len(s) > 1 {
			s[1].Place = place(slot(0, 0))
			r.Work = impl.WorkSteps(p, impl.WorkNew(p, r.Drafts, s), len(r.Work.Done))
		}
	})
	change("a work with a cell more", func(r *impl.Root) { r.Work.Store = append(r.Work.Store, cell(place(slot(3, 3)))) })
	change("no work", func(r *impl.Root) { r.Work = impl.Work{} })
	change("a work without old drafts", func(r *impl.Root) { r.Work.Old = nil })
	change("a work with old drafts", func(r *impl.Root) { r.Work.Old = r.Drafts })
	change("a work with a draft more", func(r *impl.Root) { r.Work.Done = append(r.Work.Done, r.Drafts[0]) })
	change("a work without drafts", func(r *impl.Root) { r.Work.Done = nil })
	change("a work with a call more", func(r *impl.Root) { r.Work.Open = append(r.Work.Open, bareCall()) })
	change("a work without calls", func(r *impl.Root) { r.Work.Open = nil })
	change("a work with more new drafts", func(r *impl.Root) { r.Work.Many++ })
	change("a work with fewer new drafts", func(r *impl.Root) { r.Work.Many-- })
}

func TestRootOkOfEachChange(t *testing.T) {
	found := map[bool]int{}
	changedRoots(func(what string, r impl.Root) {
		want := wantRootOk(listProg(), r)
		found[want]++
		checkRootOk(t, what, listProg(), r, want)
	})
	if found[true] < 100 || found[false] < 1000 {
		t.Errorf("%v of the roots are valid", found)
	}
}

// Some changes of which the answer is written out.
func TestRootOk(t *testing.T) {
	p := listProg()
	for what, list := range rootsOf() {
		checkRootOk(t, what, p, impl.RootRun(p, list), true)
	}
	r := impl.RootRun(p, rootsOf()["busy"])
	if !r.Busy || r.Lane != 1 || r.Seen != 3 {
		t.Errorf("the busy screen is %v", r)
	}
	is := func(what string, want bool, by func(r *impl.Root)) {
		t.Helper()
		r := impl.RootRun(p, rootsOf()["busy"])
		by(&r)
		checkRootOk(t, what, p, r, want)
	}
	is("a lane that does not wait", false, func(r *impl.Root) { r.Lane = 0 })
	is("a lane that is not the least", false, func(r *impl.Root) { r.Lane = 2 })
	is("nothing seen", false, func(r *impl.Root) { r.Seen = 0 })
	is("more seen than there is", false, func(r *impl.Root) { r.Seen = 4 })
	is("less seen", false, func(r *impl.Root) { r.Seen = 2 })
	is("an update more than is seen", true, func(r *impl.Root) { r.Line.Rest = append(r.Line.Rest, added(5, 0)) })
	is("a work at its beginning", true, func(r *impl.Root) { r.Work = impl.WorkNew(p, r.Drafts, r.Work.Store) })
	is("a work at its end", false, func(r *impl.Root) { r.Work = impl.WorkSteps(p, r.Work, 300) })
	is("a work one unit ahead of its end", true, func(r *impl.Root) { r.Work = impl.WorkSteps(p, r.Work, 1) })
	is("another base", false, func(r *impl.Root) { r.Line.Base[0].States[0] = num(6) })
	// Drafts of another store, with the same places, are valid on an idle screen.
	other := impl.RootRun(p, nil)
	other.Drafts = impl.DrawDrafts(p, []impl.Cell{cell(nil, num(77), num(2))})
	checkRootOk(t, "drafts of another store", p, other, true)
	other.Drafts = impl.DrawDrafts(p, []impl.Cell{cell(nil, num(5), num(1))})
	checkRootOk(t, "drafts of another store with other places", p, other, false)
}

func TestRootOkOfOtherPrograms(t *testing.T) {
	for _, p := range append(invalidProgs(), fullProg(), bothStates()) {
		checkRootOk(t, "the zero root", p, impl.Root{}, false)
		for what, list := range rootsOf() {
			checkRootOk(t, what+" of another program", p, impl.RootRun(listProg(), list), false)
		}
	}
	checkRootOk(t, "the zero root", listProg(), impl.Root{}, false)
	r := impl.RootRun(fullProg(), nil)
	checkRootOk(t, "a root", fullProg(), r, true)
	checkRootOk(t, "a root of another program", listProg(), r, false)
}

func TestRootGo(t *testing.T) {
	p := listProg()
	for what, list := range rootsOf() {
		r := impl.RootRun(p, list)
		for _, more := range [][]impl.Turn{nil, {flushed()}, {working(0)}, {working(1)}, {working(2), posted(added(3, 0)), working(4)}, {posted(added(2, -1)), posted(bumped(9, 1, 0))}, {posted(listed(0)), posted(listed(2)), flushed()}} {
			checkGone(t, p, r, more)
			if want := impl.RootRun(p, slices.Concat(list, more)); !same(impl.RootGo(p, r, more), want) {
				t.Errorf("%s: RootGo by %v is not RootRun", what, more)
			}
		}
		for _, x := range invalidTurns() {
			checkSame(t, "RootGo", impl.RootGo(p, r, turns(x)), impl.Root{})
			checkSame(t, "RootGo", impl.RootGo(p, r, turns(flushed(), x)), impl.Root{})
		}
	}
}

func TestRootGoOfMaxScript(t *testing.T) {
	p := listProg()
	first := slices.Repeat(turns(posted(added(1, 0)), flushed()), 30)
	r := impl.RootRun(p, first)
	more := slices.Repeat(turns(posted(added(1, 2)), working(1)), 32)
	for _, many := range []int{58, 59, 60} {
		checkGone(t, p, r, more[:many])
	}
	for _, many := range []int{61, 62, 64} {
		checkSame(t, "RootGo", impl.RootGo(p, r, more[:many]), impl.Root{})
	}
	// The log does not grow on.
	full := impl.RootGo(p, r, first)
	if len(r.Log) != 60 || !slices.Equal(full.Log, r.Log) || full.Line.Base[0].States[0] != num(65) {
		t.Errorf("behind 120 turns the screen is %v", full)
	}
	checkRootOk(t, "a screen that goes on", p, full, true)
	part := impl.RootRun(p, first[:57])
	checkGone(t, p, part, first)
}

func TestRootIdle(t *testing.T) {
	p := listProg()
	for what, list := range rootsOf() {
		r := impl.RootRun(p, list)
		idle := impl.RootIdle(p, r)
		want := r
		want.Busy, want.Lane, want.Seen, want.Work = false, 0, 0, impl.Work{}
		checkSame(t, what, idle, want)
		checkRootOk(t, what, p, idle, true)
		checkSame(t, what, impl.RootIdle(p, idle), idle)
	}
}

func TestGoingOnChangesAndSharesNothing(t *testing.T) {
	eachScript(40, func(r *rand.Rand, p []impl.Comp, list []impl.Turn) {
		root, want := impl.RootRun(p, list), impl.RootRun(p, list)
		// With spare capacity that a turn might write to.
		root.Line.Rest = append(make([]impl.Update, 0, 50), root.Line.Rest...)
		root.Log = append(make([]impl.Event, 0, 70), root.Log...)
		root.Work.Done = append(make([]impl.Draft, 0, 20), root.Work.Done...)
		root.Work.Open = append(make([]impl.Call, 0, 20), root.Work.Open...)
		for _, more := range [][]impl.Turn{nil, randomTurns(r, p, 8), turns(posted(added(1, 0)), flushed())} {
			out := impl.RootGo(p, root, more)
			checkUnshared(t, out, p, root, more)
			checkSame(t, "the root", root, want)
			checkSame(t, "spare capacity of the Rest", root.Line.Rest[:50][len(root.Line.Rest):], make([]impl.Update, 50-len(root.Line.Rest)))
			checkSame(t, "spare capacity of the Log", root.Log[:70][len(root.Log):], make([]impl.Event, 70-len(root.Log)))
			checkSame(t, "spare capacity of what is done", root.Work.Done[:20][min(20, len(root.Work.Done)):], make([]impl.Draft, max(0, 20-len(root.Work.Done))))
		}
		checkUnshared(t, impl.RootIdle(p, root), p, root)
		checkSame(t, "the root", root, want)
	})
}

// eachStop calls with random turns, behind some of which the screen is stopped, often while it works.
func eachStop(many int, visit func(r *rand.Rand, p []impl.Comp, first, then []impl.Turn)) {
	eachScript(many, func(r *rand.Rand, p []impl.Comp, list []impl.Turn) {
		at := r.IntN(len(list) + 1)
		first := slices.Clone(list[:at])
		if r.IntN(2) == 0 {
			first = append(first, posted(randomUpdate(r, wantStore(p, nil))), working(1))
		}
		visit(r, p, first, list[at:])
	})
}

func TestPromise74AValidScreenIsOneThatMayGoOn(t *testing.T) {
	busy := 0
	eachStop(600, func(_ *rand.Rand, p []impl.Comp, first, _ []impl.Turn) {
		r := impl.RootRun(p, first)
		busy += truth(r.Busy).Num
		if !impl.RootOk(p, r) || !wantRootOk(p, r) {
			t.Errorf("RootOk(%v, %v) is not true", p, r)
		}
		for _, none := range [][]impl.Turn{nil, {}} {
			checkSame(t, "RootGo without turns", impl.RootGo(p, r, none), r)
		}
	})
	if busy < 80 {
		t.Errorf("%d screens are busy", busy)
	}
}

func TestPromise75TurnsMayBeDoneInPieces(t *testing.T) {
	eachStop(500, func(r *rand.Rand, p []impl.Comp, first, then []impl.Turn) {
		root := impl.RootRun(p, randomTurns(r, p, 5))
		all := impl.RootGo(p, root, slices.Concat(first, then))
		some := impl.RootGo(p, root, first)
		if !impl.RootOk(p, some) || !impl.RootOk(p, all) {
			t.Errorf("RootGo(%v, %v) is not valid", p, first)
		}
		checkSame(t, "the screen", impl.RootGo(p, some, then), all)
	})
}

func TestPromise76WorkThatIsThrownAwayIsNotSeenInTheRootInTheEnd(t *testing.T) {
	busy := 0
	eachStop(1500, func(_ *rand.Rand, p []impl.Comp, first, _ []impl.Turn) {
		r := impl.RootRun(p, first)
		if !r.Busy {
			return
		}
		busy++
		with, without := impl.RootGo(p, r, turns(flushed())), impl.RootGo(p, impl.RootIdle(p, r), turns(flushed()))
		checkSame(t, "the root's states", without.Line.Base[0], with.Line.Base[0])
		checkSame(t, "the root's states that are shown", without.Drafts[0].States, with.Drafts[0].States)
		checkSame(t, "the log without the work", impl.RootIdle(p, r).Log, r.Log)
	})
	if busy < 200 {
		t.Errorf("%d screens are busy", busy)
	}
}

func TestPromise109AScreenThatGoesOnIsOneThatWasNotStopped(t *testing.T) {
	eachStop(800, func(_ *rand.Rand, p []impl.Comp, first, then []impl.Turn) {
		want := play(p, slices.Concat(first, then)).whole()
		checkSame(t, "the screen", impl.RootGo(p, impl.RootRun(p, first), then), impl.RootRun(p, slices.Concat(first, then)))
		checkSame(t, "the tests' own screen", impl.RootGo(p, impl.RootRun(p, first), then), want)
	})
}
