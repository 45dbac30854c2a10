package tests

import (
	"math"
	"math/rand/v2"
	"slices"
	"testing"

	"loop.example/drawnanew/impl"
)

// partsOn returns the things of the tests' own drawing on a way, below the whole tree; false if there is no such part.
func partsOn(p []impl.Comp, s []impl.Cell, way []int) ([]thing, bool) {
	var on []thing
	list := flatThings(scene{p, s}.root().body)
	for _, n := range way {
		if n < 0 || n >= len(list) {
			return nil, false
		}
		on = append(on, list[n])
		list = flatThings(list[n].kids)
	}
	return on, true
}

func wantUpdates(p []impl.Comp, s []impl.Cell, way []int, event int) []impl.Update {
	var updates []impl.Update
	on, _ := partsOn(p, s, way)
	for _, x := range slices.Backward(on) {
		for _, o := range x.ons {
			if o.Event != event {
				continue
			}
			act := p[x.owner.call.Comp].Acts[o.Act]
			if len(act) == 0 {
				return updates
			}
			for _, set := range act {
				updates = append(updates, setTo(x.owner.call.Place, set.State, event, set.Form...))
			}
		}
	}
	return updates
}

func wantWays(p []impl.Comp, s []impl.Cell, event int) [][]int {
	var ways [][]int
	for _, way := range waysOf(wantTree(p, s))[1:] {
		on, _ := partsOn(p, s, way)
		if slices.ContainsFunc(on[len(on)-1].ons, func(o impl.On) bool { return o.Event == event }) {
			ways = append(ways, way)
		}
	}
	return ways
}

func checkUpdates(t *testing.T, p []impl.Comp, list []impl.Draft, way []int, event int, want ...impl.Update) {
	t.Helper()
	if got := impl.EventUpdates(p, list, way, event); !same(got, want) {
		t.Errorf("EventUpdates(%v, %v, %v, %d) = %v, not %v", p, list, way, event, got, want)
	}
}

func checkWays(t *testing.T, p []impl.Comp, list []impl.Draft, event int, want ...[]int) {
	t.Helper()
	if got := impl.EventWays(p, list, event); !same(got, want) {
		t.Errorf("EventWays(%v, %v, %d) = %v, not %v", p, list, event, got, want)
	}
}

func checkTurns(t *testing.T, p []impl.Comp, list []impl.Turn, way []int, event int, want ...impl.Update) {
	t.Helper()
	var posts []impl.Turn
	for _, u := range want {
		posts = append(posts, posted(u))
	}
	if got := impl.EventTurns(p, list, way, event); !same(got, posts) {
		t.Errorf("EventTurns(%v, %v, %v, %d) = %v, not %v", p, list, way, event, got, posts)
	}
}

// checkEvents checks all events at all ways of what a program draws.
func checkEvents(t *testing.T, p []impl.Comp, s []impl.Cell) {
	t.Helper()
	list := impl.DrawDrafts(p, s)
	for event := range 3 {
		checkWays(t, p, list, event, wantWays(p, s, event)...)
		for _, way := range waysOf(wantTree(p, s)) {
			checkUpdates(t, p, list, way, event, wantUpdates(p, s, way, event)...)
		}
	}
}

func eventOf(on ...impl.On) func(tag int, kids ...impl.Tmpl) impl.Tmpl {
	return func(tag int, kids ...impl.Tmpl) impl.Tmpl {
		e := elemOf(tag, kids...)
		e.Ons = on
		return e
	}
}

// eventsProg draws (t0 (t1 '5' (t2 'a') (t3 (t4 '0') (t4 '1')) 'b')): an element of the root with the events 0 and 2, an element in it with the event 0, whose act has two sets, and one without, in which a component stands in turns, with the events 0 and 1 below a gift; the act of its event 1 has no sets.
func eventsProg() []impl.Comp {
	add := steps(state(0), con(num(1)), do(impl.OpAdd))
	acts := [][]impl.Set{{{Form: add}}, {{Form: number(9)}, {Form: add}}}
	row := eachOf(number(2), steps(turn(0)), callOf(1, steps(turn(0))))
	return []impl.Comp{
		{
			States: []impl.Value{num(5)},
			Acts:   acts,
			Body: eventOf(impl.On{Event: 0, Act: 0}, impl.On{Event: 2, Act: 1})(1,
				textOf(steps(state(0))),
				eventOf(impl.On{Event: 0, Act: 1})(2, textOf(constant(text("a")))),
				elemOf(3, row),
				giveOf(0, constant(text("b")), textOf(steps(use(0))))),
		},
		{
			Props: 1, States: []impl.Value{num(0), num(1)},
			Acts: [][]impl.Set{nil, {{State: 1, Form: add}}},
			Body: giveOf(1, one(), eventOf(impl.On{Event: 0, Act: 1}, impl.On{Event: 1, Act: 0})(4, textOf(steps(prop(0))))),
		},
	}
}

func TestEventUpdates(t *testing.T) {
	p := eventsProg()
	list := impl.DrawDrafts(p, nil)
	checkDrawn(t, p, nil, "(t0 (t1 '5' (t2 'a') (t3 (t4 k0 '0') (t4 k1 '1')) 'b'))")
	add := steps(state(0), con(num(1)), do(impl.OpAdd))
	root0, inner0 := setTo(nil, 0, 0, add...), []impl.Update{setTo(nil, 0, 0, number(9)...), setTo(nil, 0, 0, add...)}
	root2 := []impl.Update{setTo(nil, 0, 2, number(9)...), setTo(nil, 0, 2, add...)}
	// The whole tree has no events, and a text has those of what it is in.
	for event := range 3 {
		checkUpdates(t, p, list, nil, event)
		checkUpdates(t, p, list, []int{}, event)
	}
	checkUpdates(t, p, list, []int{0}, 0, root0)
	checkUpdates(t, p, list, []int{0}, 1)
	checkUpdates(t, p, list, []int{0}, 2, root2...)
	checkUpdates(t, p, list, []int{0, 0}, 0, root0)
	checkUpdates(t, p, list, []int{0, 3}, 2, root2...)
	// One within one that has the event, too, and one without it.
	both := append(slices.Clone(inner0), root0)
	checkUpdates(t, p, list, []int{0, 1}, 0, both...)
	checkUpdates(t, p, list, []int{0, 1, 0}, 0, both...)
	checkUpdates(t, p, list, []int{0, 1, 0}, 2, root2...)
	checkUpdates(t, p, list, []int{0, 2}, 0, root0)
	// In a component that stands in them.
	for n := range 2 {
		w := list[1+n].Call.Place
		own := setTo(w, 1, 0, add...)
		checkUpdates(t, p, list, []int{0, 2, n}, 0, own, root0)
		checkUpdates(t, p, list, []int{0, 2, n, 0}, 0, own, root0)
		checkUpdates(t, p, list, []int{0, 2, n, 0}, 1)
		checkUpdates(t, p, list, []int{0, 2, n}, 2, root2...)
	}
	checkEvents(t, p, nil)
}

// An act without sets ends the event, what was told ahead of it stays.
func TestEventUpdatesEndWithAnActWithoutSets(t *testing.T) {
	on := eventOf(impl.On{Event: 1, Act: 0})
	off := eventOf(impl.On{Event: 1, Act: 1})
	p := []impl.Comp{{States: []impl.Value{num(5)}, Acts: [][]impl.Set{{{Form: one()}}, nil}, Body: on(1, off(2, on(3, elemOf(4))))}}
	list := impl.DrawDrafts(p, nil)
	u := setTo(nil, 0, 1, one()...)
	checkUpdates(t, p, list, []int{0}, 1, u)
	checkUpdates(t, p, list, []int{0, 0}, 1)
	checkUpdates(t, p, list, []int{0, 0, 0}, 1, u)
	checkUpdates(t, p, list, []int{0, 0, 0, 0}, 1, u)
	checkWays(t, p, list, 1, []int{0}, []int{0, 0}, []int{0, 0, 0})
	p[0].Body = on(1, on(2, on(3, off(4))))
	list = impl.DrawDrafts(p, nil)
	checkUpdates(t, p, list, []int{0, 0, 0}, 1, u, u, u)
	checkUpdates(t, p, list, []int{0, 0, 0, 0}, 1)
}

func TestEventUpdatesOfOtherWays(t *testing.T) {
	p := eventsProg()
	list := impl.DrawDrafts(p, nil)
	for _, way := range [][]int{{1}, {-1}, {0, 4}, {0, -1}, {0, 0, 0}, {0, 1, 1}, {0, 1, 0, 0}, {0, 2, 2}, {0, 2, 0, 1}, {math.MinInt}, {math.MaxInt}, {0, 1 << 32}, make([]int, 1000)} {
		for event := range 3 {
			checkUpdates(t, p, list, way, event)
			checkTurns(t, p, nil, way, event)
		}
	}
}

func TestEventWays(t *testing.T) {
	p := eventsProg()
	list := impl.DrawDrafts(p, nil)
	checkWays(t, p, list, 0, []int{0}, []int{0, 1}, []int{0, 2, 0}, []int{0, 2, 1})
	checkWays(t, p, list, 1, []int{0, 2, 0}, []int{0, 2, 1})
	checkWays(t, p, list, 2, []int{0})
	checkWays(t, progOf(elemOf(1)), impl.DrawDrafts(progOf(elemOf(1)), nil), 0)
	// What is drawn first by a component stands where that is left open.
	on := eventOf(impl.On{Event: 0, Act: 0})
	p = []impl.Comp{
		{Body: giveOf(0, one(), callOf(1), textNumber(1), callOf(1))},
		{Acts: [][]impl.Set{nil}, Body: giveOf(0, one(), on(1), textNumber(1), on(2, on(3)))},
	}
	checkWays(t, p, impl.DrawDrafts(p, nil), 0, []int{0}, []int{2}, []int{2, 0}, []int{4}, []int{6}, []int{6, 0})
}

func TestEventsBeyond(t *testing.T) {
	p := eventsProg()
	list := impl.DrawDrafts(p, nil)
	for _, event := range []int{math.MinInt, -2, -1, 3, 4, 1 << 32, math.MaxInt} {
		checkUpdates(t, p, list, []int{0}, event)
		checkWays(t, p, list, event)
		checkTurns(t, p, nil, []int{0}, event)
	}
}

func TestEventsOfWhatIsNotValid(t *testing.T) {
	p := eventsProg()
	good := impl.DrawDrafts(p, nil)
	check := func(p []impl.Comp, bad []impl.Draft) {
		t.Helper()
		for event := range 3 {
			checkUpdates(t, p, bad, []int{0}, event)
			checkUpdates(t, p, bad, nil, event)
			checkWays(t, p, bad, event)
		}
	}
	for _, bad := range [][]impl.Draft{nil, good[1:], good[:2], append(slices.Clone(good), good[2]), {good[0], good[2], good[1]}, impl.DrawDrafts(fullProg(), nil)} {
		check(p, bad)
	}
	changedDrafts(func() []impl.Draft { return impl.DrawDrafts(p, nil) }, func(_ string, bad []impl.Draft) { check(p, bad) })
	for _, q := range append(invalidProgs(), fullProg()) {
		check(q, good)
		if !impl.ProgOk(q) {
			checkTurns(t, q, nil, []int{0}, 0)
		}
	}
	for _, x := range invalidTurns() {
		checkTurns(t, p, turns(x), []int{0}, 0)
		checkTurns(t, p, turns(flushed(), x), []int{0}, 0)
	}
	checkTurns(t, p, slices.Repeat(turns(flushed()), 61), []int{0}, 0)
}

func TestEventTurns(t *testing.T) {
	p := eventsProg()
	add := steps(state(0), con(num(1)), do(impl.OpAdd))
	first := setTo(nil, 0, 0, add...)
	checkTurns(t, p, nil, []int{0}, 0, first)
	checkTurns(t, p, slices.Repeat(turns(flushed()), 60), []int{0}, 0, first)
	checkTurns(t, p, nil, []int{0, 1, 0}, 0, setTo(nil, 0, 0, number(9)...), first, first)
	checkTurns(t, p, nil, []int{0, 0}, 1)
	checkTurns(t, p, nil, nil, 0)
	checkRootTree(t, p, append(impl.EventTurns(p, nil, []int{0, 1}, 0), flushed()), "(t0 (t1 '11' (t2 'a') (t3 (t4 k0 '0') (t4 k1 '1')) 'b'))")
	// What is shown counts, not what is worked for.
	p = listProg()
	p[1].Acts = [][]impl.Set{{{Form: add}}}
	p[1].Body = eventOf(impl.On{})(2, p[1].Body)
	list := turns(posted(listed(3)), working(3))
	checkTurns(t, p, list, []int{0, 2}, 0, bumped(1, 1, 0))
	checkTurns(t, p, list, []int{0, 3}, 0)
	checkTurns(t, p, append(list, working(1)), []int{0, 3}, 0, bumped(2, 1, 0))
	if r := impl.RootRun(p, list); !r.Busy {
		t.Errorf("no work is open: %v", r)
	}
}

// Components whose cells have another number of states have their first ones.
func TestEventsOfOtherNumbersOfStates(t *testing.T) {
	p := eventsProg()
	under := impl.DrawDrafts(p, nil)[1].Call.Place
	for many := range 4 {
		s := []impl.Cell{cell(nil, make([]impl.Value, many)...), cell(under, make([]impl.Value, 3-many)...)}
		checkEvents(t, p, s)
		if n := len(impl.EventUpdates(p, impl.DrawDrafts(p, s), []int{0, 2, 0}, 0)); n != 2 {
			t.Errorf("EventUpdates with %v are %d", s, n)
		}
	}
}

func TestEventsChangeAndShareNothing(t *testing.T) {
	eachLively(150, func(r *rand.Rand, p []impl.Comp, s []impl.Cell) {
		list := impl.DrawDrafts(p, s)
		for event := range 3 {
			ways := impl.EventWays(p, list, event)
			checkUnshared(t, ways, p, list)
			for _, way := range ways {
				copied := slices.Clone(way)
				checkUnshared(t, impl.EventUpdates(p, list, way, event), p, list, way)
				checkUnshared(t, impl.EventTurns(p, nil, way, event), p, way)
				checkSame(t, "the way", way, copied)
			}
		}
		checkSame(t, "the drafts", list, wantDrafts(p, s))
	})
}

func TestEventsOfRandomPrograms(t *testing.T) {
	many := 0
	eachLively(500, func(_ *rand.Rand, p []impl.Comp, s []impl.Cell) {
		checkEvents(t, p, s)
		many += len(wantWays(p, s, 0))
	})
	if many < 500 {
		t.Errorf("%d elements have the event 0", many)
	}
}

func TestPromise52WhatAnEventAtAPartTellsThePartThatItIsInTellsBehindIt(t *testing.T) {
	more := 0
	eachLively(800, func(_ *rand.Rand, p []impl.Comp, s []impl.Cell) {
		list := impl.DrawDrafts(p, s)
		for _, way := range waysOf(impl.DraftsTree(p, list))[1:] {
			for event := range 3 {
				inner, outer := impl.EventUpdates(p, list, way, event), impl.EventUpdates(p, list, way[:len(way)-1], event)
				if len(inner) == 0 {
					// An act without sets, at the part, is the only reason for updates further out.
					on, _ := partsOn(p, s, way)
					x := on[len(on)-1]
					at := slices.IndexFunc(x.ons, func(o impl.On) bool { return o.Event == event })
					if len(outer) > 0 && (at < 0 || len(p[x.owner.call.Comp].Acts[x.ons[at].Act]) > 0) {
						t.Errorf("at %v, the event %d tells nothing, and further out %v", way, event, outer)
					}
					continue
				}
				if len(inner) < len(outer) {
					t.Errorf("at %v, the event %d tells %v, and further out %v", way, event, inner, outer)
					continue
				}
				checkSame(t, "the last updates", inner[len(inner)-len(outer):], outer)
				more += truth(len(outer) > 0 && len(inner) > len(outer)).Num
			}
		}
	})
	if more < 300 {
		t.Errorf("%d parts tell more than what they are in", more)
	}
}

func TestPromise53WaysOfAnEventAreWaysOfTheTree(t *testing.T) {
	eachLively(1000, func(_ *rand.Rand, p []impl.Comp, s []impl.Cell) {
		list := impl.DrawDrafts(p, s)
		tree := impl.DraftsTree(p, list)
		for event := range 3 {
			ways := impl.EventWays(p, list, event)
			for i, way := range ways {
				if part, ok := impl.TreeAt(tree, way); !ok || part.Tag < 0 || len(way) == 0 {
					t.Errorf("TreeAt(%s, %v) = %s, %v", brief(tree), way, brief(part), ok)
				}
				if i > 0 && slices.Compare(ways[i-1], way) >= 0 {
					t.Errorf("EventWays = %v", ways)
				}
			}
			checkWays(t, p, list, event, wantWays(p, s, event)...)
		}
	})
}

func TestPromise54WhatAnEventPostsIsNotLost(t *testing.T) {
	many := 0
	losses := func(log []impl.Event) int {
		return len(slices.DeleteFunc(slices.Clone(log), func(e impl.Event) bool { return e.Kind != impl.EventLost }))
	}
	eachScript(800, func(r *rand.Rand, p []impl.Comp, list []impl.Turn) {
		root := impl.RootRun(p, list)
		for _, way := range waysOf(impl.RootTree(p, list)) {
			event := r.IntN(3)
			posts := impl.EventTurns(p, list, way, event)
			for _, x := range posts {
				many++
				if x.Kind != impl.TurnPost || !impl.UpdateOk(x.Update) || x.Update.Lane != event || x.Units != 0 {
					t.Errorf("EventTurns(%v, %v, %v, %d) has %v", p, list, way, event, x)
				}
			}
			if len(root.Line.Rest)+len(posts) > 40 || len(list)+len(posts) > 60 || len(root.Log)+len(posts) > 60 {
				continue
			}
			behind := impl.RootRun(p, append(slices.Clone(list), posts...))
			if losses(behind.Log) != losses(root.Log) || len(behind.Line.Rest) != len(root.Line.Rest)+len(posts) {
				t.Errorf("behind %v and %v, the log is %v", list, posts, behind.Log)
			}
		}
	})
	if many < 2000 {
		t.Errorf("%d updates are posted", many)
	}
}
