package tests

import (
	"math/rand/v2"
	"slices"
	"strings"
	"testing"

	"loop.example/drawnanew/impl"
)

func checkHydrates(t *testing.T, p []impl.Comp, s []impl.Cell, text string, want bool) {
	t.Helper()
	if impl.HydrateOk(p, s, text) != want {
		t.Errorf("HydrateOk(%v, %v, %.200q) is %v", p, s, text, !want)
	}
}

func checkHydrated(t *testing.T, p []impl.Comp, s []impl.Cell, text string, want []impl.Edit, found bool) {
	t.Helper()
	if list, ok := impl.HydrateEdits(p, s, text); ok != found || !same(list, want) {
		t.Errorf("HydrateEdits(%v, %v, %.200q) = %v, %v, not %v, %v", p, s, text, list, ok, want, found)
	}
}

// checkText checks all that is told of a text, which is a tree's or not.
func checkText(t *testing.T, p []impl.Comp, s []impl.Cell, text string) {
	t.Helper()
	drawn := wantTree(p, s)
	checkHydrates(t, p, s, text, text == wantText(drawn))
	tree, ok := impl.TreeRead(text)
	if !ok {
		checkHydrated(t, p, s, text, nil, false)
		return
	}
	checkHydrated(t, p, s, text, wantEdits(tree, drawn), true)
}

// longProg draws longTree of so many bytes.
func longProg(bytes int) []impl.Comp {
	kids := longTree(bytes).Kids
	return []impl.Comp{
		{Body: giveOf(0, one(), callOf(1), callOf(2))},
		{Body: rowDrawn(kids[:64], 3)},
		{Body: rowDrawn(kids[64:], 3)},
	}
}

// rowDrawn draws elements without Kids, side by side, at most four of them, or four times as many for each of some levels.
func rowDrawn(kids []impl.Tree, levels int) impl.Tmpl {
	row := giveOf(0, one())
	if levels == 0 {
		row = elemOf(kids[0].Tag)
		for _, p := range kids[0].Props {
			row.Names, row.Args = append(row.Names, p.Name), append(row.Args, constant(p.Val))
		}
		return row
	}
	most := 1 << (2 * (levels - 1))
	for some := range slices.Chunk(kids, most) {
		row.Kids = append(row.Kids, rowDrawn(some, levels-1))
	}
	return row
}

func TestHydrateOk(t *testing.T) {
	p := listProg()
	const drawn = "(t0 (t1 '5' '0' '0'))"
	checkHydrates(t, p, nil, drawn, true)
	for i := range drawn {
		checkHydrates(t, p, nil, drawn[:i], false)
		checkHydrates(t, p, nil, drawn[i+1:], false)
		for _, b := range []string{"", " ", "0", "1", "5", "6", "'", "(", ")", "t", "-"} {
			if other := drawn[:i] + b + drawn[i+1:]; other != drawn {
				checkText(t, p, nil, other)
			}
			checkText(t, p, nil, drawn[:i]+b+drawn[i:])
		}
	}
	for _, s := range []string{"", " ", "''", "(t0)", "(t0 k0)", "(t1 '5' '0' '0')", drawn + " ", " " + drawn, drawn + drawn} {
		checkHydrates(t, p, nil, s, false)
		checkText(t, p, nil, s)
	}
	one := []impl.Cell{cell(nil, num(7), num(1))}
	checkHydrates(t, p, one, "(t0 (t1 '7' '0'))", true)
	checkHydrates(t, p, one, drawn, false)
}

func TestHydrateEdits(t *testing.T) {
	p := listProg()
	checkHydrated(t, p, nil, "(t0 (t1 '5' '0' '0'))", nil, true)
	checkHydrated(t, p, nil, "(t0 (t1 '6' '0' '0'))", []impl.Edit{{Kind: impl.EditText, Way: []int{0, 0}, Val: text("5")}}, true)
	checkHydrated(t, p, nil, "(t0)", []impl.Edit{{Kind: impl.EditMake, Tree: read("(t1 '5' '0' '0')")}}, true)
	// Another tag, another key, and a text: all is another one.
	for _, s := range []string{"(t1)", "(t1 (t1 '5' '0' '0'))", "(t0 k0 (t1 '5' '0' '0'))", "'a'"} {
		checkHydrated(t, p, nil, s, []impl.Edit{{Kind: impl.EditAll, Tree: read("(t0 (t1 '5' '0' '0'))")}}, true)
	}
	// No tree, and none that is valid.
	for _, s := range []string{"", "x", "(t0", "(t0 )", "(t9)", "(t0 (t1 k1) (t1 k1))", "'A'", wantText(flat(201)), wantText(nested(25, word("a")))} {
		checkHydrated(t, p, nil, s, nil, false)
		checkHydrates(t, p, nil, s, false)
	}
	checkText(t, p, nil, wantText(flat(200)))
	checkText(t, p, nil, wantText(nested(24, word("a"))))
}

func TestHydrationOfLongTexts(t *testing.T) {
	p := listProg()
	for _, bytes := range []int{7999, 8000, 8001, 9000} {
		s := wantText(longTree(bytes))
		checkText(t, p, nil, s)
		if _, ok := impl.HydrateEdits(p, nil, s); ok != (bytes <= 8000) {
			t.Errorf("HydrateEdits of %d bytes is %v", bytes, ok)
		}
		checkText(t, p, nil, strings.Repeat("z", bytes))
	}
	// What is drawn may have more bytes than a text that is read.
	for _, bytes := range []int{7999, 8000, 8001, 8002, 9000} {
		p, drawn := longProg(bytes), wantText(longTree(bytes))
		checkScene(t, p, nil)
		checkHydrates(t, p, nil, drawn, true)
		checkHydrates(t, p, nil, drawn[:bytes-1], false)
		checkText(t, p, nil, drawn)
		checkText(t, p, nil, "(t0)")
	}
}

func TestHydrationOfWhatIsNotValid(t *testing.T) {
	zero := impl.TreeText(impl.Tree{})
	for _, p := range invalidProgs() {
		for _, s := range []string{"", zero, "(t0)", "(t0 '1')", wantText(fullTree())} {
			checkHydrates(t, p, nil, s, false)
			checkHydrated(t, p, nil, s, nil, false)
		}
	}
	for _, bad := range invalidStores() {
		for _, s := range []string{"", zero, "(t0)", "(t0 (t1 '5' '0' '0'))"} {
			checkHydrates(t, listProg(), bad, s, false)
			checkHydrated(t, listProg(), bad, s, nil, false)
		}
	}
}

func TestHydrationChangesAndSharesNothing(t *testing.T) {
	eachLively(200, func(r *rand.Rand, p []impl.Comp, s []impl.Cell) {
		copied := slices.Clone(s)
		there := wantText(changed(r, wantTree(p, livelyStore(r, p))))
		list, _ := impl.HydrateEdits(p, s, there)
		checkUnshared(t, list, p, s)
		impl.HydrateOk(p, s, there)
		checkSame(t, "the store", s, copied)
		checkText(t, p, s, there)
	})
}

func TestPromise72WhatIsDrawnNeedsNoEdits(t *testing.T) {
	eachLively(800, func(_ *rand.Rand, p []impl.Comp, s []impl.Cell) {
		drawn := impl.TreeText(impl.DrawTree(p, s))
		checkHydrates(t, p, s, drawn, true)
		if len(drawn) <= 8000 {
			checkHydrated(t, p, s, drawn, nil, true)
		}
	})
}

func TestPromise73ATextBecomesWhatIsDrawn(t *testing.T) {
	many := 0
	check := func(p []impl.Comp, s []impl.Cell, there impl.Tree) {
		text := impl.TreeText(there)
		list, ok := impl.HydrateEdits(p, s, text)
		if !ok {
			return
		}
		many++
		tree, _ := impl.TreeRead(text)
		if out, ok := impl.TreePatched(tree, list); !ok || !same(out, impl.DrawTree(p, s)) {
			t.Errorf("TreePatched(%s, %v) = %s, %v, not %s", brief(tree), list, brief(out), ok, brief(wantTree(p, s)))
		}
		checkText(t, p, s, text)
	}
	eachLively(600, func(r *rand.Rand, p []impl.Comp, s []impl.Cell) {
		check(p, s, wantTree(p, livelyStore(r, p)))
		check(p, s, changed(r, wantTree(p, s)))
		check(p, s, randomTree(r, 1+r.IntN(20), 24))
	})
	if many < 1500 {
		t.Errorf("%d texts become what is drawn", many)
	}
}
