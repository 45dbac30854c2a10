package tests

import (
	"math"
	"math/rand/v2"
	"slices"
	"testing"

	"loop.example/drawnanew/impl"
)

func checkDraftsOk(t *testing.T, what string, p []impl.Comp, list []impl.Draft, want bool) {
	t.Helper()
	if impl.DraftsOk(p, list) != want {
		t.Errorf("%s: DraftsOk(%v, %v) is %v", what, p, list, !want)
	}
	if tree := impl.DraftsTree(p, list); !want && !same(tree, impl.Tree{}) {
		t.Errorf("%s: DraftsTree is %s", what, brief(tree))
	}
	if !want {
		checkNotRedrawn(t, p, list, nil)
	}
}

func checkNotRedrawn(t *testing.T, p []impl.Comp, old []impl.Draft, s []impl.Cell) {
	t.Helper()
	if list := impl.RedrawDrafts(p, old, s); len(list) > 0 {
		t.Errorf("RedrawDrafts(%v, %v, %v) = %v", p, old, s, list)
	}
	if many := impl.RedrawMany(p, old, s); many != -1 {
		t.Errorf("RedrawMany(%v, %v, %v) = %d", p, old, s, many)
	}
}

func checkMany(t *testing.T, p []impl.Comp, old []impl.Draft, s []impl.Cell, want int) {
	t.Helper()
	if many := impl.RedrawMany(p, old, s); many != want {
		t.Errorf("RedrawMany(%v, %v, %v) = %d, not %d", p, old, s, many, want)
	}
	checkSame(t, "RedrawDrafts", impl.RedrawDrafts(p, old, s), wantDrafts(p, s))
}

// wantMany counts the drafts that have no old one of the same place, call and states.
func wantMany(old, list []impl.Draft) int {
	many := 0
	for _, d := range list {
		taken := slices.ContainsFunc(old, func(o impl.Draft) bool { return same(o.Call, d.Call) && same(o.States, d.States) })
		many += truth(!taken).Num
	}
	return many
}

// changedDrafts calls with drafts that are changed in one thing each.
func changedDrafts(list func() []impl.Draft, visit func(what string, list []impl.Draft)) {
	change := func(what string, by func(d *impl.Draft) bool) {
		for i := range list() {
			other := list()
			if by(&other[i]) {
				visit(what, other)
			}
		}
	}
	change("a place", func(d *impl.Draft) bool {
		d.Call.Place = append(d.Call.Place, slot(0, 0))
		return true
	})
	change("a slot", func(d *impl.Draft) bool {
		if len(d.Call.Place) > 0 {
			d.Call.Place[len(d.Call.Place)-1].Sub++
		}
		return len(d.Call.Place) > 0
	})
	change("a place that is not valid", func(d *impl.Draft) bool {
		d.Call.Place = append(d.Call.Place, slot(256, 0))
		return true
	})
	for _, n := range []int{-1, 1, math.MaxInt} {
		change("a component", func(d *impl.Draft) bool { d.Call.Comp += n; return true })
	}
	change("a prop", func(d *impl.Draft) bool { d.Call.Props = append(d.Call.Props, none()); return true })
	change("another prop", func(d *impl.Draft) bool {
		for i := range d.Call.Props {
			d.Call.Props[i] = text("new")
		}
		return len(d.Call.Props) > 0
	})
	change("a gift", func(d *impl.Draft) bool { d.Call.Gifts[1] = text("new"); return true })
	change("a gift less", func(d *impl.Draft) bool { d.Call.Gifts = d.Call.Gifts[:1]; return true })
	change("a state more", func(d *impl.Draft) bool { d.States = append(d.States, num(1)); return true })
	change("a state less", func(d *impl.Draft) bool {
		if len(d.States) > 0 {
			d.States = d.States[1:]
			return true
		}
		return false
	})
	change("a state that is not valid", func(d *impl.Draft) bool {
		for i := range d.States {
			d.States[i] = num(5000)
		}
		return len(d.States) > 0
	})
	change("a tree more", func(d *impl.Draft) bool { d.Trees = append(d.Trees, word("a")); return true })
	change("a tree less", func(d *impl.Draft) bool {
		less := len(d.Trees) > 0
		d.Trees = d.Trees[:max(0, len(d.Trees)-1)]
		return less
	})
	change("a call more", func(d *impl.Draft) bool { d.Calls = append(d.Calls, bareCall()); return true })
	change("a bind more", func(d *impl.Draft) bool { d.Binds = append(d.Binds, impl.Bind{}); return true })
	changedInside(list, change)
}

func changedInside(list func() []impl.Draft, change func(what string, by func(d *impl.Draft) bool)) {
	parts := []func(x *impl.Tree){
		func(x *impl.Tree) { x.Tag++ },
		func(x *impl.Tree) { x.Key++ },
		func(x *impl.Tree) { x.Text += "a" },
		func(x *impl.Tree) { x.Props = append(x.Props, propOf(9, none())) },
		func(x *impl.Tree) { x.Kids = append(x.Kids, word("")) },
		func(x *impl.Tree) { x.Kids = []impl.Tree{*x}; x.Kids[0].Kids = x.Kids },
	}
	for _, by := range parts {
		change("a tree", func(d *impl.Draft) bool {
			if len(d.Trees) > 0 {
				by(&d.Trees[0])
			}
			return len(d.Trees) > 0
		})
		change("a Kid", func(d *impl.Draft) bool {
			if len(d.Trees) == 0 || len(d.Trees[0].Kids) == 0 {
				return false
			}
			by(&d.Trees[0].Kids[len(d.Trees[0].Kids)-1])
			return true
		})
	}
	calls := []func(c *impl.Call){
		func(c *impl.Call) { c.Comp-- },
		func(c *impl.Call) { c.Place[0].Pos++ },
		func(c *impl.Call) { c.Props = append(c.Props, num(1)) },
		func(c *impl.Call) { c.Gifts[0] = num(99) },
	}
	for _, by := range calls {
		change("one of the calls", func(d *impl.Draft) bool {
			if len(d.Calls) > 0 {
				by(&d.Calls[len(d.Calls)-1])
			}
			return len(d.Calls) > 0
		})
	}
	binds := []func(b *impl.Bind){
		func(b *impl.Bind) { b.Elem++ },
		func(b *impl.Bind) { b.Ons[0].Event++ },
		func(b *impl.Bind) { b.Ons[0].Act++ },
		func(b *impl.Bind) { b.Ons = append(b.Ons, impl.On{}) },
		func(b *impl.Bind) { b.Ons = nil },
	}
	for _, by := range binds {
		change("a bind", func(d *impl.Draft) bool {
			if len(d.Binds) > 0 {
				by(&d.Binds[len(d.Binds)-1])
			}
			return len(d.Binds) > 0
		})
	}
}

func TestDraftsOk(t *testing.T) {
	for _, p := range [][]impl.Comp{draftsProg(), fullProg(), bothStates(), progOf(textOf(one()))} {
		list := impl.DrawDrafts(p, nil)
		checkDraftsOk(t, "drafts", p, list, true)
		checkDraftsOk(t, "no drafts", p, nil, false)
		checkDraftsOk(t, "a draft too few", p, list[1:], false)
		checkDraftsOk(t, "a draft twice", p, append(slices.Clone(list), list[0]), false)
		checkDraftsOk(t, "the last draft twice", p, append(slices.Clone(list), list[len(list)-1]), false)
		if len(list) > 1 {
			checkDraftsOk(t, "the last draft too few", p, list[:len(list)-1], false)
		}
		for i := range list[1:] {
			turned := slices.Clone(list)
			turned[i], turned[i+1] = turned[i+1], turned[i]
			checkDraftsOk(t, "two drafts that are turned round", p, turned, false)
		}
		checkDraftsOk(t, "very many drafts", p, slices.Repeat(list, 300), false)
	}
}

func TestDraftsOkOfEachChange(t *testing.T) {
	for _, p := range [][]impl.Comp{draftsProg(), fullProg(), bothStates(), rowOf(func(call impl.Tmpl) impl.Tmpl { return call })} {
		many := 0
		changedDrafts(func() []impl.Draft { return impl.DrawDrafts(p, nil) }, func(what string, other []impl.Draft) {
			many++
			checkDraftsOk(t, what, p, other, false)
		})
		if many < 20 {
			t.Errorf("%d drafts were changed", many)
		}
	}
}

// A state that is another one makes drafts of another store, if all that depends on it is, too.
func TestDraftsOkOfOtherStates(t *testing.T) {
	p := bothStates()
	list := impl.DrawDrafts(p, nil)
	list[1].States[0] = num(8)
	checkDraftsOk(t, "a state alone", p, list, false)
	list[1].Trees[0].Text = "8"
	checkDraftsOk(t, "a state and its text", p, list, true)
}

func TestDraftsOkOfOtherPrograms(t *testing.T) {
	programs := [][]impl.Comp{draftsProg(), fullProg(), bothStates(), progOf(textOf(one())), progOf(elemOf(0))}
	for i, p := range programs {
		for j, q := range programs {
			checkDraftsOk(t, "drafts of another program", p, impl.DrawDrafts(q, nil), i == j)
		}
		for _, q := range invalidProgs() {
			checkDraftsOk(t, "a program that is not valid", q, impl.DrawDrafts(p, nil), false)
			checkDraftsOk(t, "a program that is not valid", q, nil, false)
		}
	}
}

func TestDraftsTree(t *testing.T) {
	p := draftsProg()
	if s := impl.TreeText(impl.DraftsTree(p, impl.DrawDrafts(p, nil))); s != "(t0 (t1 '1' (t2) (t4 k0 (t3) '0') (t4 k1 (t3) '1') (t3)))" {
		t.Errorf("DraftsTree = %s", s)
	}
	five := eachOf(number(1), number(5), elemOf(2))
	p = progOf(elemOf(1, five, five))
	checkSame(t, "DraftsTree", impl.DraftsTree(p, impl.DrawDrafts(p, nil)), read("(t0 (t1 (t2 k5) (t2)))"))
}

func TestRedrawOfEachState(t *testing.T) {
	p := bothStates()
	under := place(slot(0, 0), slot(1, 0))
	old := impl.DrawDrafts(p, nil)
	checkMany(t, p, old, nil, 0)
	checkMany(t, p, old, []impl.Cell{cell(nil, num(1), text("a")), cell(under, num(3))}, 0)
	checkMany(t, p, old, []impl.Cell{cell(nil, num(1)), cell(deepPlace(20)), cell(place(slot(3, 3)), num(8))}, 0)
	checkMany(t, p, old, []impl.Cell{cell(nil, num(1), text("b"))}, 1)
	checkMany(t, p, old, []impl.Cell{cell(under, num(4))}, 1)
	checkMany(t, p, old, []impl.Cell{cell(nil, num(2), text("a")), cell(under, num(4))}, 2)
	// A state that is not shown makes another draft, too.
	p[1].Body = textOf(one())
	old = impl.DrawDrafts(p, nil)
	checkMany(t, p, old, []impl.Cell{cell(under, num(4))}, 1)
}

func TestRedrawOfTurns(t *testing.T) {
	p := rowOf(func(call impl.Tmpl) impl.Tmpl { return call })
	old := impl.DrawDrafts(p, nil)
	s := impl.DrawStore(p, nil)
	for i := range s[1:] {
		other := impl.DrawStore(p, nil)
		other[i+1].States[0] = num(50)
		checkMany(t, p, old, other, 1)
	}
	// The turns are turned round: their components stay where they are.
	s[0].States[0] = num(1)
	checkMany(t, p, old, s, 1)
	// Without keys, turns stay where they are, whatever is in them.
	p[0].Body.Kids[1].Key = nil
	checkMany(t, p, impl.DrawDrafts(p, nil), []impl.Cell{cell(nil, num(1))}, 1)
}

func TestRedrawOfPropsAndGifts(t *testing.T) {
	show := func(f ...impl.Step) impl.Tmpl { return textOf(steps(f...)) }
	props := []impl.Comp{
		{States: []impl.Value{num(1), num(2)}, Body: giveOf(0, steps(state(1)), callOf(1, steps(state(0))), callOf(1, one()))},
		{Props: 1, Body: giveOf(1, one(), callOf(2))},
		{Body: show(use(0))},
	}
	old := impl.DrawDrafts(props, nil)
	if len(old) != 5 {
		t.Fatalf("DrawDrafts = %v", old)
	}
	checkMany(t, props, old, []impl.Cell{cell(nil, num(1), num(2))}, 0)
	// A prop of one of the two components, which does not hand it on, and a gift of all.
	checkMany(t, props, old, []impl.Cell{cell(nil, num(7), num(2))}, 2)
	checkMany(t, props, old, []impl.Cell{cell(nil, num(1), num(7))}, 5)
}

func TestRedrawOfWhatComesAndGoes(t *testing.T) {
	p := []impl.Comp{
		{States: []impl.Value{num(1)}, Body: eachOf(steps(state(0)), nil, callOf(1, steps(turn(0))))},
		{Props: 1, States: []impl.Value{num(3)}, Body: textOf(steps(prop(0)))},
	}
	with := func(n int) []impl.Cell { return []impl.Cell{cell(nil, num(n))} }
	old := impl.DrawDrafts(p, with(2))
	checkMany(t, p, old, with(0), 1)
	checkMany(t, p, old, with(1), 1)
	checkMany(t, p, old, with(2), 0)
	checkMany(t, p, old, with(4), 3)
	checkMany(t, p, impl.DrawDrafts(p, with(0)), with(4), 5)
}

func TestRedrawWhatIsNotValid(t *testing.T) {
	p := fullProg()
	old := impl.DrawDrafts(p, nil)
	for _, s := range invalidStores() {
		checkNotRedrawn(t, p, old, s)
		checkNotRedrawn(t, p, nil, s)
	}
	for _, q := range invalidProgs() {
		checkNotRedrawn(t, q, old, nil)
		checkNotRedrawn(t, q, nil, someStore())
	}
	checkNotRedrawn(t, p, nil, nil)
	checkNotRedrawn(t, p, impl.DrawDrafts(draftsProg(), nil), nil)
	checkMany(t, p, old, someStore(), wantMany(old, wantDrafts(p, someStore())))
}

func TestRedrawingChangesAndSharesNothing(t *testing.T) {
	eachLively(250, func(r *rand.Rand, p []impl.Comp, s []impl.Cell) {
		old, other := impl.DrawDrafts(p, s), livelyStore(r, p)
		want, wantStore := wantDrafts(p, s), slices.Clone(other)
		list := impl.RedrawDrafts(p, old, other)
		checkUnshared(t, list, p, old, other)
		checkUnshared(t, impl.RedrawDrafts(p, old, s), p, old, s)
		checkUnshared(t, impl.DraftsTree(p, old), p, old)
		impl.DraftsOk(p, old)
		impl.RedrawMany(p, old, other)
		checkSame(t, "the old drafts", old, want)
		checkSame(t, "the store", other, wantStore)
	})
}

func TestPromise25DraftsArePutTogetherToTheTree(t *testing.T) {
	eachLively(1500, func(_ *rand.Rand, p []impl.Comp, s []impl.Cell) {
		checkSame(t, "DraftsTree", impl.DraftsTree(p, impl.DrawDrafts(p, s)), wantTree(p, s))
		checkSame(t, "DrawTree", impl.DrawTree(p, s), wantTree(p, s))
	})
}

func TestPromise29ValidDraftsAreTakenAsTheyAre(t *testing.T) {
	eachLively(1500, func(_ *rand.Rand, p []impl.Comp, s []impl.Cell) {
		list := impl.DrawDrafts(p, s)
		checkDraftsOk(t, "drafts", p, list, true)
		checkMany(t, p, list, cellsOf(list), 0)
	})
}

func TestPromise30TheTreeOfDraftsIsWhatTheirStoreDraws(t *testing.T) {
	eachLively(1500, func(_ *rand.Rand, p []impl.Comp, s []impl.Cell) {
		list := impl.DrawDrafts(p, s)
		checkSame(t, "DraftsTree", impl.DraftsTree(p, list), impl.DrawTree(p, cellsOf(list)))
	})
}

func TestPromise31WhatIsDrawnByOldDraftsIsWhatIsDrawnAnew(t *testing.T) {
	eachLively(1500, func(r *rand.Rand, p []impl.Comp, s []impl.Cell) {
		other := livelyStore(r, p)
		list := impl.RedrawDrafts(p, impl.DrawDrafts(p, s), other)
		checkSame(t, "RedrawDrafts", list, impl.DrawDrafts(p, other))
		checkSame(t, "RedrawDrafts", list, wantDrafts(p, other))
	})
}

func TestPromise32NoMoreIsDrawnThanThereIs(t *testing.T) {
	some := 0
	eachLively(1500, func(r *rand.Rand, p []impl.Comp, s []impl.Cell) {
		other := livelyStore(r, p)
		old := impl.DrawDrafts(p, s)
		list := impl.RedrawDrafts(p, old, other)
		many := impl.RedrawMany(p, old, other)
		if many < 0 || many > len(list) || many != wantMany(old, list) {
			t.Errorf("RedrawMany(%v, %v, %v) = %d of %d, not %d", p, old, other, many, len(list), wantMany(old, list))
		}
		some += truth(0 < many && many < len(list)).Num
		checkMany(t, p, list, other, 0)
	})
	if some < 200 {
		t.Errorf("%d programs draw some of their drafts anew", some)
	}
}

func TestPromise104OldDraftsOfAnyStoreDoForAnyOtherOne(t *testing.T) {
	eachLively(1500, func(r *rand.Rand, p []impl.Comp, s []impl.Cell) {
		other := livelyStore(r, p)
		first := impl.DrawDrafts(p, s)
		second := impl.RedrawDrafts(p, first, other)
		checkSame(t, "the second drafts", second, impl.DrawDrafts(p, other))
		checkSame(t, "the drafts back", impl.RedrawDrafts(p, second, s), first)
	})
}
