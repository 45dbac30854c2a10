package tests

import (
	"math/rand/v2"
	"slices"
	"testing"

	"loop.example/drawnanew/impl"
)

func checkDrawn(t *testing.T, p []impl.Comp, s []impl.Cell, want string) {
	t.Helper()
	if got := impl.TreeText(impl.DrawTree(p, s)); got != want {
		t.Errorf("DrawTree(%v, %v) = %q, not %q", p, s, got, want)
	}
}

// checkBodyDrawn checks what the root draws by a body; its second component shows its two props, and its third one is the text '1'.
func checkBodyDrawn(t *testing.T, body impl.Tmpl, want string) {
	t.Helper()
	p := progOf(body)
	p[1].Body = elemOf(1, textOf(steps(prop(0))), textOf(steps(prop(1))))
	if !impl.ProgOk(p) {
		t.Errorf("ProgOk(%v) is false", p)
	}
	if want != "" {
		want = " " + want
	}
	checkDrawn(t, p, nil, "(t0"+want+")")
}

// checkScene checks all that is drawn by the tests' own drawing.
func checkScene(t *testing.T, p []impl.Comp, s []impl.Cell) {
	t.Helper()
	checkSame(t, "DrawTree", impl.DrawTree(p, s), wantTree(p, s))
	checkSame(t, "DrawStore", impl.DrawStore(p, s), wantStore(p, s))
	checkSame(t, "DrawDrafts", impl.DrawDrafts(p, s), wantDrafts(p, s))
}

func checkNotDrawn(t *testing.T, p []impl.Comp, s []impl.Cell) {
	t.Helper()
	checkSame(t, "DrawTree", impl.DrawTree(p, s), impl.Tree{})
	checkSame(t, "DrawStore", impl.DrawStore(p, s), []impl.Cell{})
	checkSame(t, "DrawDrafts", impl.DrawDrafts(p, s), []impl.Draft{})
}

func number(n int) []impl.Step { return steps(con(num(n))) }

func constant(v impl.Value) []impl.Step { return steps(con(v)) }

func textNumber(n int) impl.Tmpl { return textOf(number(n)) }

func TestDrawConstants(t *testing.T) {
	if impl.TagHole != -2 {
		t.Errorf("TagHole is %d", impl.TagHole)
	}
}

func TestDrawTexts(t *testing.T) {
	checkBodyDrawn(t, textOf(constant(none())), "''")
	checkBodyDrawn(t, textOf(constant(text(""))), "''")
	checkBodyDrawn(t, textOf(constant(text("a b"))), "'a b'")
	checkBodyDrawn(t, textNumber(-1000), "'-1000'")
	checkBodyDrawn(t, textOf(sums(9)), "'5'")
	checkBodyDrawn(t, textOf(steps(use(0))), "''")
}

func TestDrawElements(t *testing.T) {
	checkBodyDrawn(t, elemOf(0), "(t0)")
	checkBodyDrawn(t, elemOf(4, textNumber(1), elemOf(2, textNumber(2)), textNumber(3)), "(t4 '1' (t2 '2') '3')")
	e := elemOf(1, textNumber(7))
	e.Names, e.Args = []int{0, 2, 3}, [][]impl.Step{number(5), constant(text("a")), constant(none())}
	checkBodyDrawn(t, e, "(t1 p0=5 p2='a' p3=- '7')")
	checkBodyDrawn(t, elemOf(1, texts(4)...), "(t1 '1' '1' '1' '1')")
}

func TestDrawIf(t *testing.T) {
	for _, v := range validValues() {
		yes, no := "'8'", "'9'"
		if !impl.ValTrue(v) {
			yes, no = "", "'9'"
		} else {
			no = yes
		}
		checkBodyDrawn(t, ifOf(constant(v), textNumber(8)), yes)
		checkBodyDrawn(t, ifOf(constant(v), textNumber(8), textNumber(9)), no)
	}
	checkBodyDrawn(t, elemOf(1, ifOf(number(0), textNumber(8)), textNumber(7)), "(t1 '7')")
	checkBodyDrawn(t, ifOf(number(1), elemOf(2), elemOf(3)), "(t2)")
	checkBodyDrawn(t, ifOf(number(0), elemOf(2), elemOf(3)), "(t3)")
}

func TestDrawTurns(t *testing.T) {
	all := []string{"", "'0'", "'0' '1'", "'0' '1' '2'", "'0' '1' '2' '3'"}
	for _, n := range []int{-1000, -4, -1, 0, 1, 2, 3, 4, 5, 6, 1000} {
		checkBodyDrawn(t, eachOf(number(n), nil, textOf(steps(turn(0)))), all[max(0, min(n, 4))])
	}
	for _, v := range []impl.Value{none(), text(""), text("3"), text("a")} {
		checkBodyDrawn(t, eachOf(constant(v), nil, textOf(steps(turn(0)))), "")
	}
	inner := elemOf(1, textOf(steps(turn(0))), textOf(steps(turn(1))))
	checkBodyDrawn(t, eachOf(number(2), nil, eachOf(steps(turn(0)), nil, inner)), "(t1 '0' '1')")
	checkBodyDrawn(t, eachOf(number(3), nil, eachOf(steps(turn(0)), nil, inner)), "(t1 '0' '1') (t1 '0' '2') (t1 '1' '2')")
	// The number of turns, and the arguments of a component, are told outside, and a component finds no turns.
	checkBodyDrawn(t, eachOf(number(2), nil, callOf(1, steps(turn(0)), number(5))), "(t1 '0' '5') (t1 '1' '5')")
}

// keyed is an element in turns with a key.
func keyed(many int, key ...impl.Step) impl.Tmpl {
	return eachOf(number(many), key, elemOf(2, textOf(steps(turn(0)))))
}

func TestDrawKeys(t *testing.T) {
	checkBodyDrawn(t, keyed(2), "(t2 '0') (t2 '1')")
	checkBodyDrawn(t, keyed(2, turn(0)), "(t2 k0 '0') (t2 k1 '1')")
	checkBodyDrawn(t, keyed(2, con(num(9)), turn(0), do(impl.OpSub)), "(t2 k9 '0') (t2 k8 '1')")
	checkBodyDrawn(t, keyed(3, con(num(99)), turn(0), do(impl.OpAdd)), "(t2 k99 '0') (t2 '1') (t2 '2')")
	checkBodyDrawn(t, keyed(3, turn(0), con(num(1)), do(impl.OpSub)), "(t2 '0') (t2 k0 '1') (t2 k1 '2')")
	checkBodyDrawn(t, keyed(1, con(num(1000))), "(t2 '0')")
	checkBodyDrawn(t, keyed(1, con(num(-1000))), "(t2 '0')")
	for _, v := range []impl.Value{none(), text(""), text("5"), num(-1), num(100)} {
		checkBodyDrawn(t, keyed(3, con(v)), "(t2 '0') (t2 '1') (t2 '2')")
	}
}

func TestDrawKeysTwiceAmongTheTurns(t *testing.T) {
	for _, n := range []int{0, 5, 99} {
		checkBodyDrawn(t, keyed(4, con(num(n))), "(t2 k"+impl.ValShow(num(n))+" '0')")
	}
	// The keys 0, 1, 0, 1, and then 0, 1, 2, 0.
	two := steps(turn(0), con(num(2)), do(impl.OpLess), turn(0), turn(0), con(num(2)), do(impl.OpSub), pick())
	checkBodyDrawn(t, keyed(4, two...), "(t2 k0 '0') (t2 k1 '1')")
	three := steps(turn(0), con(num(3)), do(impl.OpLess), turn(0), con(num(0)), pick())
	checkBodyDrawn(t, keyed(4, three...), "(t2 k0 '0') (t2 k1 '1') (t2 k2 '2')")
	// The key is had by a turn that draws nothing, or a text.
	checkBodyDrawn(t, eachOf(number(4), number(5), ifOf(steps(turn(0)), textOf(steps(turn(0))))), "")
	checkBodyDrawn(t, eachOf(number(4), number(5), textOf(steps(turn(0)))), "'0'")
	// Another loop may have it, too.
	again := elemOf(1, eachOf(number(2), number(5), elemOf(2)))
	checkBodyDrawn(t, giveOf(0, one(), keyed(1, con(num(5))), again, again), "(t2 k5 '0') (t1 (t2 k5)) (t1 (t2 k5))")
}

func TestDrawKeysOfTheFirstThing(t *testing.T) {
	turnKey := steps(turn(0))
	group := func(kids ...impl.Tmpl) impl.Tmpl { return giveOf(0, one(), kids...) }
	each := func(kid impl.Tmpl) impl.Tmpl { return eachOf(number(2), turnKey, kid) }
	checkBodyDrawn(t, each(group(elemOf(1), elemOf(2))), "(t1 k0) (t2) (t1 k1) (t2)")
	checkBodyDrawn(t, each(group(textNumber(1), elemOf(2))), "'1' (t2) '1' (t2)")
	checkBodyDrawn(t, each(group(callOf(2), elemOf(2))), "'1' (t2) '1' (t2)")
	checkBodyDrawn(t, each(group(callOf(1, one(), one()), elemOf(2))), "(t1 k0 '1' '1') (t2) (t1 k1 '1' '1') (t2)")
	checkBodyDrawn(t, each(group(ifOf(number(0), elemOf(1)), elemOf(2))), "(t2 k0) (t2 k1)")
	checkBodyDrawn(t, each(elemOf(3, elemOf(1))), "(t3 k0 (t1)) (t3 k1 (t1))")
	// A key in place of one that is there already.
	inner := eachOf(number(2), steps(con(num(50)), turn(0), do(impl.OpAdd)), elemOf(4))
	checkBodyDrawn(t, elemOf(1, eachOf(number(1), number(7), inner)), "(t1 (t4 k7) (t4 k51))")
	checkBodyDrawn(t, elemOf(1, eachOf(number(1), number(100), inner)), "(t1 (t4 k50) (t4 k51))")
}

func TestDrawKeysOfComponents(t *testing.T) {
	// withBodies returns a program whose root draws the second component with the key 7, and an element behind it.
	withBodies := func(second, third impl.Tmpl) []impl.Comp {
		return []impl.Comp{{Body: elemOf(1, eachOf(number(1), number(7), callOf(1)), elemOf(4))}, {Body: second}, {Body: third}}
	}
	group := func(kids ...impl.Tmpl) impl.Tmpl { return giveOf(0, one(), kids...) }
	checkDrawn(t, withBodies(elemOf(2), elemOf(3)), nil, "(t0 (t1 (t2 k7) (t4)))")
	checkDrawn(t, withBodies(textNumber(2), elemOf(3)), nil, "(t0 (t1 '2' (t4)))")
	checkDrawn(t, withBodies(group(textNumber(2), elemOf(2)), elemOf(3)), nil, "(t0 (t1 '2' (t2) (t4)))")
	checkDrawn(t, withBodies(callOf(2), elemOf(3)), nil, "(t0 (t1 (t3 k7) (t4)))")
	checkDrawn(t, withBodies(callOf(2), textNumber(3)), nil, "(t0 (t1 '3' (t4)))")
	checkDrawn(t, withBodies(group(callOf(2), elemOf(2)), group()), nil, "(t0 (t1 (t2 k7) (t4)))")
	checkDrawn(t, withBodies(group(), elemOf(3)), nil, "(t0 (t1 (t4)))")
	checkDrawn(t, withBodies(eachOf(number(2), steps(turn(0)), elemOf(2)), elemOf(3)), nil, "(t0 (t1 (t2 k7) (t2 k1) (t4)))")
	checkDrawn(t, withBodies(eachOf(number(2), number(9), callOf(2)), elemOf(3)), nil, "(t0 (t1 (t3 k7) (t4)))")
	checkDrawn(t, withBodies(eachOf(number(1), number(9), callOf(2)), eachOf(number(1), number(8), elemOf(3))), nil, "(t0 (t1 (t3 k7) (t4)))")
	p := withBodies(eachOf(number(1), number(9), callOf(2)), eachOf(number(1), number(8), elemOf(3)))
	p[0].Body.Kids[0].Key = nil
	checkDrawn(t, p, nil, "(t0 (t1 (t3 k9) (t4)))")
	p[1].Body.Key = number(100)
	checkDrawn(t, p, nil, "(t0 (t1 (t3 k8) (t4)))")
}

func TestDrawKeysThatTwoKidsHave(t *testing.T) {
	five := func(kid impl.Tmpl) impl.Tmpl { return eachOf(number(1), number(5), kid) }
	six := eachOf(number(1), number(6), elemOf(3))
	checkBodyDrawn(t, elemOf(1, five(elemOf(1)), five(elemOf(2)), six, five(elemOf(3))), "(t1 (t1 k5) (t2) (t3 k6) (t3))")
	checkBodyDrawn(t, elemOf(1, five(elemOf(1)), elemOf(4, five(elemOf(2)))), "(t1 (t1 k5) (t4 (t2 k5)))")
	checkBodyDrawn(t, giveOf(0, one(), five(elemOf(1)), five(elemOf(2))), "(t1 k5) (t2)")
	checkBodyDrawn(t, elemOf(1, five(callOf(1, one(), one())), five(elemOf(2))), "(t1 (t1 k5 '1' '1') (t2))")
	checkBodyDrawn(t, elemOf(1, five(textNumber(1)), five(elemOf(2))), "(t1 '1' (t2 k5))")
	// The key of the component takes the place of the first key, so that the second one is there alone.
	both := giveOf(0, one(), five(elemOf(1)), five(elemOf(2)))
	p := []impl.Comp{{Body: elemOf(1, six, eachOf(number(1), number(8), callOf(1)))}, {Body: both}}
	checkDrawn(t, p, nil, "(t0 (t1 (t3 k6) (t1 k8) (t2 k5)))")
	p[0].Body = elemOf(1, six, callOf(1), five(elemOf(3)))
	checkDrawn(t, p, nil, "(t0 (t1 (t3 k6) (t1 k5) (t2) (t3)))")
}

func TestDrawGifts(t *testing.T) {
	both := elemOf(1, textOf(steps(use(0))), textOf(steps(use(1))))
	checkBodyDrawn(t, both, "(t1 '' '')")
	checkBodyDrawn(t, giveOf(0, number(7), both), "(t1 '7' '')")
	checkBodyDrawn(t, giveOf(1, number(7), both), "(t1 '' '7')")
	checkBodyDrawn(t, giveOf(1, number(7), giveOf(0, number(8), both)), "(t1 '8' '7')")
	checkBodyDrawn(t, giveOf(0, number(7), giveOf(0, steps(use(0), con(num(1)), do(impl.OpAdd)), both)), "(t1 '8' '')")
	checkBodyDrawn(t, elemOf(2, giveOf(0, number(7), textOf(steps(use(0)))), textOf(steps(use(0)))), "(t2 '7' '')")
	checkBodyDrawn(t, giveOf(0, number(7), giveOf(0, number(8), textOf(steps(use(0)))), textOf(steps(use(0)))), "'8' '7'")
	checkBodyDrawn(t, giveOf(0, number(7)), "")
	// A component finds the gifts that were given around it, and so do those that it calls.
	p := []impl.Comp{{Body: elemOf(3, giveOf(0, number(7), callOf(1)), callOf(2))}, {Body: giveOf(1, steps(use(0)), callOf(2))}, {Body: both}}
	checkDrawn(t, p, nil, "(t0 (t3 (t1 '7' '7') (t1 '' '')))")
}

// bothStates shows its two states, and calls a component of one state at its second Kid.
func bothStates() []impl.Comp {
	return []impl.Comp{
		{States: []impl.Value{num(1), text("a")}, Body: elemOf(1, textOf(steps(state(0), state(1), do(impl.OpJoin))), callOf(1))},
		{States: []impl.Value{num(3)}, Body: textOf(steps(state(0)))},
	}
}

func TestDrawWithStates(t *testing.T) {
	p := bothStates()
	under := place(slot(0, 0), slot(1, 0))
	checkDrawn(t, p, nil, "(t0 (t1 '1a' '3'))")
	checkDrawn(t, p, []impl.Cell{cell(nil, text("x"), num(2))}, "(t0 (t1 'x2' '3'))")
	checkDrawn(t, p, []impl.Cell{cell(under, none())}, "(t0 (t1 '1a' ''))")
	checkDrawn(t, p, []impl.Cell{cell(nil, num(9), num(9)), cell(under, num(8))}, "(t0 (t1 '99' '8'))")
	for _, many := range []int{0, 1, 3} {
		checkDrawn(t, p, []impl.Cell{cell(nil, make([]impl.Value, many)...)}, "(t0 (t1 '1a' '3'))")
	}
	for _, many := range []int{0, 2, 3} {
		checkDrawn(t, p, []impl.Cell{cell(under, make([]impl.Value, many)...)}, "(t0 (t1 '1a' '3'))")
	}
	for _, w := range [][]impl.Slot{place(slot(0, 0)), place(slot(1, 0)), place(slot(0, 0), slot(0, 0)), place(slot(0, 0), slot(1, 1)), append(slices.Clone(under), slot(0, 0))} {
		checkDrawn(t, p, []impl.Cell{cell(w, num(8)), cell(append(slices.Clone(w), slot(0, 1)), num(8), num(8))}, "(t0 (t1 '1a' '3'))")
	}
}

func TestDrawStore(t *testing.T) {
	p := bothStates()
	under := place(slot(0, 0), slot(1, 0))
	checkSame(t, "the store", impl.DrawStore(p, nil), []impl.Cell{cell(nil, num(1), text("a")), cell(under, num(3))})
	s := []impl.Cell{cell(nil, none(), none()), cell(place(slot(0, 0)), num(7)), cell(under, num(8), num(9)), cell(place(slot(3, 3)))}
	checkSame(t, "the store", impl.DrawStore(p, s), []impl.Cell{cell(nil, none(), none()), cell(under, num(3))})
	checkSame(t, "the store", impl.DrawStore(progOf(textOf(one())), s), []impl.Cell{cell(nil)})
	// In the order of places, not of turns.
	p = []impl.Comp{{Body: eachOf(number(4), steps(con(num(2)), turn(0), do(impl.OpSub)), callOf(1))}, {States: []impl.Value{num(3)}, Body: elemOf(0)}}
	var want []impl.Cell
	for _, sub := range []int{3, 4, 5, 6} {
		want = append(want, cell(place(slot(0, 0), slot(0, sub)), num(3)))
	}
	checkSame(t, "the store", impl.DrawStore(p, nil), append([]impl.Cell{cell(nil)}, want...))
}

// draftsProg has drafts of each kind of thing: its root has a gift, turns with keys of components, and elements with Ons.
func draftsProg() []impl.Comp {
	acts := [][]impl.Set{{{Form: one()}}, nil}
	inner := elemOf(3)
	inner.Ons = []impl.On{{Event: 2, Act: 1}}
	list := eachOf(number(2), steps(turn(0)), callOf(1, steps(turn(0))))
	body := elemOf(1, textNumber(1), elemOf(2), giveOf(1, number(5), list, inner))
	body.Ons = []impl.On{{Event: 0, Act: 0}, {Event: 1, Act: 1}}
	second := eachOf(number(2), number(9), elemOf(4, callOf(2), textOf(steps(prop(0)))))
	return []impl.Comp{
		{States: []impl.Value{num(6)}, Acts: acts, Body: body},
		{Props: 1, Body: second},
		{States: []impl.Value{none(), num(1)}, Acts: acts, Body: inner},
	}
}

func TestDrawDrafts(t *testing.T) {
	hole := func(key int) impl.Tree { return impl.Tree{Tag: impl.TagHole, Key: key} }
	gifts := []impl.Value{none(), num(5)}
	call := func(comp int, props []impl.Value, slots ...impl.Slot) impl.Call {
		return impl.Call{Place: slots, Comp: comp, Props: props, Gifts: gifts}
	}
	body, first, second := slot(0, 0), slot(2, 0), slot(0, 0)
	a := call(1, []impl.Value{num(0)}, body, first, second, slot(0, 4))
	b := call(1, []impl.Value{num(1)}, body, first, second, slot(0, 5))
	inA := call(2, nil, append(slices.Clone(a.Place), body, slot(0, 13), slot(0, 0))...)
	inB := call(2, nil, append(slices.Clone(b.Place), body, slot(0, 13), slot(0, 0))...)
	whole := elem(1, -1, word("1"), elem(2, -1), hole(0), hole(1), elem(3, -1))
	two := func(s string) []impl.Tree { return []impl.Tree{elem(4, 9, hole(-1), word(s))} }
	last := []impl.Bind{{Elem: 0, Ons: []impl.On{{Event: 2, Act: 1}}}}
	want := []impl.Draft{
		{
			Call: bareCall(), States: []impl.Value{num(6)}, Trees: []impl.Tree{whole}, Calls: []impl.Call{a, b},
			Binds: []impl.Bind{{Elem: 0, Ons: []impl.On{{Event: 0, Act: 0}, {Event: 1, Act: 1}}}, {Elem: 2, Ons: []impl.On{{Event: 2, Act: 1}}}},
		},
		{Call: a, Trees: two("0"), Calls: []impl.Call{inA}},
		{Call: inA, States: []impl.Value{none(), num(1)}, Trees: []impl.Tree{elem(3, -1)}, Binds: last},
		{Call: b, Trees: two("1"), Calls: []impl.Call{inB}},
		{Call: inB, States: []impl.Value{none(), num(1)}, Trees: []impl.Tree{elem(3, -1)}, Binds: last},
	}
	checkSame(t, "DrawDrafts", impl.DrawDrafts(draftsProg(), nil), want)
	checkSame(t, "the tests' own drafts", wantDrafts(draftsProg(), nil), want)
	checkDrawn(t, draftsProg(), nil, "(t0 (t1 '1' (t2) (t4 k0 (t3) '0') (t4 k1 (t3) '1') (t3)))")
}

// No keys are taken away from drafts.
func TestDrawDraftsKeepAllKeys(t *testing.T) {
	five := eachOf(number(1), number(5), elemOf(2))
	p := progOf(elemOf(1, five, five))
	list := impl.DrawDrafts(p, nil)
	checkSame(t, "the trees", list[0].Trees, []impl.Tree{elem(1, -1, elem(2, 5), elem(2, 5))})
	checkDrawn(t, p, nil, "(t0 (t1 (t2 k5) (t2)))")
}

func TestDrawTheLongestPlaces(t *testing.T) {
	deep := func(inner impl.Tmpl) impl.Tmpl {
		return elemOf(0, ifOf(one(), giveOf(0, one(), textNumber(1), inner)))
	}
	p := []impl.Comp{{Body: deep(callOf(1))}, {Body: deep(callOf(2))}, {Body: deep(callOf(3))}, {States: []impl.Value{num(4)}, Body: deep(textOf(steps(state(0))))}}
	list := impl.DrawDrafts(p, nil)
	if len(list) != 4 || len(list[3].Call.Place) != 12 {
		t.Fatalf("DrawDrafts = %v", list)
	}
	checkDrawn(t, p, []impl.Cell{cell(list[3].Call.Place, num(8))}, "(t0 (t0 '1' (t0 '1' (t0 '1' (t0 '1' '8')))))")
	checkScene(t, p, nil)
}

func TestDrawAsManyPartsAsThereCanBe(t *testing.T) {
	p := sized(0)
	walk := func(b *impl.Tmpl) {}
	walk = func(b *impl.Tmpl) {
		if b.Kind == impl.TmplEach {
			b.Args = [][]impl.Step{number(1000)}
		}
		b.Kids = slices.Clone(b.Kids)
		for i := range b.Kids {
			walk(&b.Kids[i])
		}
	}
	for i := range p {
		walk(&p[i].Body)
	}
	checkScene(t, p, nil)
	if tree := impl.DrawTree(p, nil); !impl.TreeOk(tree) || impl.TreeSize(tree) < 150 {
		t.Errorf("TreeSize = %d", impl.TreeSize(tree))
	}
}

func TestDrawWhatIsNotValid(t *testing.T) {
	for _, p := range invalidProgs() {
		for _, s := range [][]impl.Cell{nil, someStore(), wantStore(fullProg(), nil)} {
			checkNotDrawn(t, p, s)
		}
	}
	for _, s := range invalidStores() {
		checkNotDrawn(t, fullProg(), s)
		checkNotDrawn(t, bothStates(), s)
	}
	for _, s := range [][]impl.Cell{{}, someStore(), fullStore(200)} {
		checkScene(t, fullProg(), s)
		checkScene(t, bothStates(), s)
	}
}

func TestDrawingChangesAndSharesNothing(t *testing.T) {
	programs := func() [][]impl.Comp { return [][]impl.Comp{draftsProg(), fullProg(), bothStates()} }
	for i, p := range programs() {
		s := impl.DrawStore(p, nil)
		tree, store, drafts := impl.DrawTree(p, s), impl.DrawStore(p, s), impl.DrawDrafts(p, s)
		checkUnshared(t, tree, p, s)
		checkUnshared(t, store, p, s)
		checkUnshared(t, drafts, p, s)
		checkSame(t, "the program", p, programs()[i])
		checkSame(t, "the store", s, wantStore(p, nil))
	}
	eachLively(200, func(_ *rand.Rand, p []impl.Comp, s []impl.Cell) {
		checkUnshared(t, impl.DrawTree(p, s), p, s)
		checkUnshared(t, impl.DrawStore(p, s), p, s)
		checkUnshared(t, impl.DrawDrafts(p, s), p, s)
	})
}

func TestDrawingOfRandomPrograms(t *testing.T) {
	eachLively(2500, func(_ *rand.Rand, p []impl.Comp, s []impl.Cell) { checkScene(t, p, s) })
	eachRandomProg(func(r *rand.Rand, p []impl.Comp) { checkScene(t, p, livelyStore(r, p)) })
}

func TestPromise8AValidProgramDrawsAValidTree(t *testing.T) {
	check := func(p []impl.Comp, s []impl.Cell) {
		tree := impl.DrawTree(p, s)
		if n := impl.ProgSize(p); n < 1 || !impl.TreeOk(tree) || impl.TreeSize(tree) > n+1 {
			t.Errorf("%v has the size %d, and draws %s with %v", p, n, brief(tree), s)
		}
	}
	eachRandomProg(func(r *rand.Rand, p []impl.Comp) { check(p, randomStore(r)) })
	eachLively(1500, func(_ *rand.Rand, p []impl.Comp, s []impl.Cell) { check(p, s) })
	check(sized(0), nil)
}

func TestPromise9WhatIsDrawnHasNoMorePartsThanTheProgramsSize(t *testing.T) {
	eachLively(1500, func(_ *rand.Rand, p []impl.Comp, s []impl.Cell) {
		drawn := impl.DrawStore(p, s)
		if n := impl.TreeSize(impl.DrawTree(p, drawn)); n < 1 || n > impl.ProgSize(p)+1 {
			t.Errorf("%v draws %d parts with %v", p, n, drawn)
		}
	})
}

func TestPromise23WhatIsDrawnWithItsOwnStoreIsDrawnAgain(t *testing.T) {
	eachLively(1500, func(_ *rand.Rand, p []impl.Comp, s []impl.Cell) {
		checkSame(t, "DrawTree", impl.DrawTree(p, impl.DrawStore(p, s)), impl.DrawTree(p, s))
	})
}

func TestPromise24TheStoreOfWhatIsDrawnIsItsOwn(t *testing.T) {
	eachLively(1500, func(_ *rand.Rand, p []impl.Comp, s []impl.Cell) {
		own := impl.DrawStore(p, s)
		checkStoreOk(t, own, true)
		checkSame(t, "DrawStore", impl.DrawStore(p, own), own)
		if states, ok := impl.StoreGet(own, nil); !ok || len(states) != len(p[0].States) {
			t.Errorf("StoreGet(%v, nil) = %v, %v", own, states, ok)
		}
	})
}

// rowOf returns a program whose root calls a component of a state in four turns, with a key that depends on its state: keys from 10 on, or down to 10 the other way round.
func rowOf(kid func(call impl.Tmpl) impl.Tmpl) []impl.Comp {
	up := steps(con(num(10)), turn(0), do(impl.OpAdd))
	down := steps(con(num(13)), turn(0), do(impl.OpSub))
	key := append(append(append(steps(state(0)), down...), up...), pick())
	row := eachOf(number(4), key, kid(callOf(1)))
	return []impl.Comp{{States: []impl.Value{num(0)}, Body: elemOf(1, textNumber(1), row)}, {States: []impl.Value{num(3)}, Body: elemOf(2, textOf(steps(state(0))))}}
}

func TestPromise103WithKeysStatesStayWithTheirTurns(t *testing.T) {
	for _, kid := range []func(impl.Tmpl) impl.Tmpl{
		func(call impl.Tmpl) impl.Tmpl { return call },
		func(call impl.Tmpl) impl.Tmpl { return elemOf(3, call) },
		func(call impl.Tmpl) impl.Tmpl { return giveOf(0, one(), textNumber(1), call) },
	} {
		p := rowOf(kid)
		s := impl.DrawStore(p, nil)
		if len(s) != 5 {
			t.Fatalf("DrawStore(%v) = %v", p, s)
		}
		for i := range s[1:] {
			s[i+1].States[0] = num(20 + i)
		}
		turned := slices.Clone(s)
		turned[0].States = []impl.Value{num(1)}
		checkSame(t, "the store that is turned round", impl.DrawStore(p, turned), turned)
		checkSame(t, "the store", impl.DrawStore(p, s), s)
	}
	p := rowOf(func(call impl.Tmpl) impl.Tmpl { return call })
	s := impl.DrawStore(p, nil)
	s[2].States[0] = num(77)
	checkDrawn(t, p, s, "(t0 (t1 '1' (t2 k10 '3') (t2 k11 '77') (t2 k12 '3') (t2 k13 '3')))")
	s[0].States[0] = num(1)
	checkDrawn(t, p, s, "(t0 (t1 '1' (t2 k13 '3') (t2 k12 '3') (t2 k11 '77') (t2 k10 '3')))")
}
