package tests

import (
	"math"
	"math/rand/v2"
	"slices"
	"testing"

	"loop.example/drawnanew/impl"
)

func boxAt(left, top, wide, high int) impl.Box {
	return impl.Box{Left: left, Top: top, Wide: wide, High: high}
}

// wantBoxes places what is in a part while it measures it: each Kid stands where those ahead of it end.
func wantBoxes(t impl.Tree, looks [][]int, left, top, room int) []impl.Box {
	if t.Tag < 0 {
		lines := slices.Collect(slices.Chunk([]byte(t.Text), max(1, room)))
		if room == 0 || len(lines) == 0 {
			return []impl.Box{boxAt(left, top, 0, 0)}
		}
		return []impl.Box{boxAt(left, top, len(lines[0]), len(lines))}
	}
	own := looks[0]
	box := boxAt(left, top, room, own[1])
	if own[0] > 0 && own[0] < room {
		box.Wide = own[0]
	}
	list := []impl.Box{box}
	rooms := wantRooms(t.Kids, looks, max(0, box.Wide-own[2]-own[2]))
	x, y, bottom := left+own[2], top+own[2], top+own[2]
	for i, kid := range t.Kids {
		in := wantBoxes(kid, looks[len(list):], x, y, rooms[i])
		bottom = max(bottom, y+in[0].High)
		if own[3] > 0 {
			x += rooms[i]
		} else {
			y += in[0].High
		}
		list = append(list, in...)
	}
	if own[1] == 0 {
		list[0].High = bottom + own[2] - top
	}
	return list
}

// wantRooms divides what is left by the others at once: so many of the first ones have one more.
func wantRooms(kids []impl.Tree, looks [][]int, room int) []int {
	rooms := slices.Repeat([]int{room}, len(kids))
	if looks[0][3] == 0 {
		return rooms
	}
	var others []int
	at := 1
	for i, kid := range kids {
		if wide := looks[at][0]; wide > 0 {
			rooms[i] = min(wide, room)
			room -= rooms[i]
		} else {
			others = append(others, i)
		}
		at += countOf(kid)
	}
	for n, i := range others {
		rooms[i] = room/len(others) + truth(n < room%len(others)).Num
	}
	return rooms
}

func wantAllBoxes(t impl.Tree, rules []impl.Rule, wide int) []impl.Box {
	return wantBoxes(t, wantLooks(t, rules, nil, 0), 0, 0, wide)
}

func checkAllBoxes(t *testing.T, tree impl.Tree, rules []impl.Rule, wide int) {
	t.Helper()
	want := wantAllBoxes(tree, rules, wide)
	if got := impl.BoxesOf(tree, rules, wide); !slices.Equal(got, want) {
		t.Errorf("BoxesOf(%s, %v, %d) = %v, not %v", brief(tree), rules, wide, got, want)
	}
	if high := impl.BoxHigh(tree, rules, wide); high != want[0].High {
		t.Errorf("BoxHigh(%s, %v, %d) = %d, not %d", brief(tree), rules, wide, high, want[0].High)
	}
}

func checkBoxes(t *testing.T, s string, rules []impl.Rule, wide int, want ...impl.Box) {
	t.Helper()
	if got := impl.BoxesOf(read(s), rules, wide); !slices.Equal(got, want) {
		t.Errorf("BoxesOf(%s, %v, %d) = %v, not %v", s, rules, wide, got, want)
	}
	checkAllBoxes(t, read(s), rules, wide)
}

func checkNoBoxes(t *testing.T, tree impl.Tree, rules []impl.Rule, wide int) {
	t.Helper()
	if got := impl.BoxesOf(tree, rules, wide); len(got) > 0 {
		t.Errorf("BoxesOf(%v, %d) = %v", rules, wide, got)
	}
	if high := impl.BoxHigh(tree, rules, wide); high != -1 {
		t.Errorf("BoxHigh(%v, %d) = %d", rules, wide, high)
	}
}

// boxRules are random rules for a tree that mostly give small sides.
func boxRules(r *rand.Rand, t impl.Tree) []impl.Rule {
	rules := someRules(r, t)
	for i := range rules {
		if r.IntN(12) > 0 {
			rules[i].Look = r.IntN(5)
			rules[i].Give = r.IntN([]int{25, 6, 3, 2, 61}[rules[i].Look])
		}
	}
	return rules
}

// boxTree is a tree with more texts than a random one has.
func boxTree(r *rand.Rand) impl.Tree {
	t := randomTree(r, 1+r.IntN(12), 24)
	if r.IntN(10) == 0 {
		t = randomTree(r, 1+r.IntN(200), 24)
	}
	for range r.IntN(4) {
		if t.Tag >= 0 && countOf(t) < 195 {
			t.Kids = append(t.Kids, word("abcdefghijkl"[:r.IntN(13)]))
		}
	}
	return t
}

func eachBoxes(many int, visit func(r *rand.Rand, t impl.Tree, rules []impl.Rule, wide int)) {
	r := rand.New(rand.NewPCG(17, 20))
	for range many {
		t := boxTree(r)
		visit(r, t, boxRules(r, t), r.IntN(61))
	}
}

func ruled(list ...impl.Rule) []impl.Rule { return list }

func TestBoxConstants(t *testing.T) {
	if impl.MaxWide != 60 {
		t.Errorf("MaxWide is %d", impl.MaxWide)
	}
}

func TestBoxesWithoutRules(t *testing.T) {
	checkBoxes(t, "(t0)", nil, 9, boxAt(0, 0, 9, 0))
	checkBoxes(t, "(t0 (t1) (t2 (t3)))", nil, 9, boxAt(0, 0, 9, 0), boxAt(0, 0, 9, 0), boxAt(0, 0, 9, 0), boxAt(0, 0, 9, 0))
	checkBoxes(t, "(t0 'ab' (t1 'c' 'd') 'efg')", nil, 9, boxAt(0, 0, 9, 4), boxAt(0, 0, 2, 1), boxAt(0, 1, 9, 2), boxAt(0, 1, 1, 1), boxAt(0, 2, 1, 1), boxAt(0, 3, 3, 1))
}

func TestBoxesOfTexts(t *testing.T) {
	const twelve = "'abcdefghijkl'"
	for wide, high := range []int{0, 12, 6, 4, 3, 3, 2, 2, 2, 2, 2, 2, 1, 1, 1} {
		checkBoxes(t, twelve, nil, wide, boxAt(0, 0, min(12, wide), high))
		checkBoxes(t, "(t0 "+twelve+" 'a')", nil, wide, boxAt(0, 0, wide, high+min(1, wide)), boxAt(0, 0, min(12, wide), high), boxAt(0, high, min(1, wide), min(1, wide)))
	}
	checkBoxes(t, twelve, nil, 60, boxAt(0, 0, 12, 1))
	checkBoxes(t, "''", nil, 9, impl.Box{})
	checkBoxes(t, "''", nil, 0, impl.Box{})
	checkBoxes(t, "'-1000'", nil, 4, boxAt(0, 0, 4, 2))
	checkBoxes(t, "(t0 '' 'a' '')", nil, 5, boxAt(0, 0, 5, 1), boxAt(0, 0, 0, 0), boxAt(0, 0, 1, 1), boxAt(0, 1, 0, 0))
	// Rules are for elements alone.
	checkBoxes(t, "'abc'", ruled(plain(0, 2), plain(1, 7), plain(2, 1), plain(3, 1), plain(4, 9)), 9, boxAt(0, 0, 3, 1))
}

func TestBoxesOfScreensOfAllWidths(t *testing.T) {
	tree := read("(t0 (t1 'abcde' (t2 'xy' 'z')) 'abcdefghijkl')")
	for wide := -3; wide <= 64; wide++ {
		if wide < 0 || wide > 60 {
			checkNoBoxes(t, tree, nil, wide)
			continue
		}
		checkAllBoxes(t, tree, nil, wide)
		checkAllBoxes(t, tree, ruled(ofTag(1, plain(0, 7)), plain(2, 1), ofTag(0, plain(3, 1))), wide)
	}
	for _, wide := range []int{math.MinInt, -1 << 32, 1 << 32, math.MaxInt} {
		checkNoBoxes(t, tree, nil, wide)
	}
}

func TestBoxesByLookWide(t *testing.T) {
	for give := range 15 {
		wide := give
		if give == 0 || give > 10 {
			wide = 10
		}
		high := []int{0, 6, 3, 2, 2, 2, 1}[min(6, wide)]
		checkBoxes(t, "(t0 (t1 'abcdef') 'x')", ruled(ofTag(1, plain(0, give))), 10, boxAt(0, 0, 10, high+1), boxAt(0, 0, wide, high), boxAt(0, 0, min(6, wide), high), boxAt(0, high, 1, 1))
		checkBoxes(t, "(t0 'abcdef')", ruled(plain(0, give)), 10, boxAt(0, 0, wide, high), boxAt(0, 0, min(6, wide), high))
	}
	// One in another one has no more than that leaves.
	checkBoxes(t, "(t0 (t1 (t2)))", ruled(ofTag(1, plain(0, 4)), ofTag(2, plain(0, 60))), 10, boxAt(0, 0, 10, 0), boxAt(0, 0, 4, 0), boxAt(0, 0, 4, 0))
	checkBoxes(t, "(t0 (t1 (t2)))", ruled(ofTag(1, plain(0, 4)), ofTag(2, plain(0, 3))), 0, impl.Box{}, impl.Box{}, impl.Box{})
}

func TestBoxesByLookPad(t *testing.T) {
	// With 5, a padding of 2 leaves one, one of 3 none.
	checkBoxes(t, "(t0 'ab')", ruled(plain(2, 0)), 5, boxAt(0, 0, 5, 1), boxAt(0, 0, 2, 1))
	checkBoxes(t, "(t0 'ab')", ruled(plain(2, 1)), 5, boxAt(0, 0, 5, 3), boxAt(1, 1, 2, 1))
	checkBoxes(t, "(t0 'ab')", ruled(plain(2, 2)), 5, boxAt(0, 0, 5, 6), boxAt(2, 2, 1, 2))
	checkBoxes(t, "(t0 'ab')", ruled(plain(2, 3)), 5, boxAt(0, 0, 5, 6), boxAt(3, 3, 0, 0))
	checkBoxes(t, "(t0 'ab' (t1))", ruled(ofTag(0, plain(2, 60))), 5, boxAt(0, 0, 5, 120), boxAt(60, 60, 0, 0), boxAt(60, 60, 0, 0))
	checkBoxes(t, "(t0 'ab')", ruled(plain(2, 2)), 4, boxAt(0, 0, 4, 4), boxAt(2, 2, 0, 0))
	// Within each other, and without Kids.
	checkBoxes(t, "(t0 (t1 (t2 'a')) 'b')", ruled(plain(2, 1)), 9, boxAt(0, 0, 9, 8), boxAt(1, 1, 7, 5), boxAt(2, 2, 5, 3), boxAt(3, 3, 1, 1), boxAt(1, 6, 1, 1))
	checkBoxes(t, "(t0)", ruled(plain(2, 3)), 9, boxAt(0, 0, 9, 6))
	checkBoxes(t, "(t0)", ruled(plain(2, 3), plain(3, 1)), 9, boxAt(0, 0, 9, 6))
	// The padding is of the width that the element has.
	checkBoxes(t, "(t0 'abcdef')", ruled(plain(2, 1), plain(0, 5)), 9, boxAt(0, 0, 5, 4), boxAt(1, 1, 3, 2))
}

func TestBoxesByLookHigh(t *testing.T) {
	for give := range 8 {
		high := give
		if give == 0 {
			high = 3
		}
		checkBoxes(t, "(t0 (t1 'a' 'b' 'c') 'd')", ruled(ofTag(1, plain(1, give))), 5, boxAt(0, 0, 5, high+1), boxAt(0, 0, 5, high), boxAt(0, 0, 1, 1), boxAt(0, 1, 1, 1), boxAt(0, 2, 1, 1), boxAt(0, high, 1, 1))
	}
	// LookHigh is all of it, the padding too.
	checkBoxes(t, "(t0 (t1 'a') 'd')", ruled(ofTag(1, plain(1, 1)), ofTag(1, plain(2, 2))), 5, boxAt(0, 0, 5, 2), boxAt(0, 0, 5, 1), boxAt(2, 2, 1, 1), boxAt(0, 1, 1, 1))
	checkBoxes(t, "(t0)", ruled(plain(1, 60)), 0, boxAt(0, 0, 0, 60))
}

func TestBoxesByLookAcross(t *testing.T) {
	across := ofTag(0, plain(3, 1))
	// Texts and elements without a width have the same share; the first ones have what is left over.
	for wide, rooms := range [][]int{{0, 0, 0}, {1, 0, 0}, {1, 1, 0}, {1, 1, 1}, {2, 1, 1}, {2, 2, 1}, {2, 2, 2}, {3, 2, 2}} {
		checkBoxes(t, "(t0 (t1) (t2) (t3))", ruled(across), wide, boxAt(0, 0, wide, 0), boxAt(0, 0, rooms[0], 0), boxAt(rooms[0], 0, rooms[1], 0), boxAt(rooms[0]+rooms[1], 0, rooms[2], 0))
	}
	checkBoxes(t, "(t0 'a' 'abcd' (t1))", ruled(across), 8, boxAt(0, 0, 8, 2), boxAt(0, 0, 1, 1), boxAt(3, 0, 3, 2), boxAt(6, 0, 2, 0))
	// With widths: as much as these tell, or as is left, in order.
	wides := ruled(across, ofTag(1, plain(0, 3)), ofTag(2, plain(0, 4)))
	checkBoxes(t, "(t0 (t1) (t2))", wides, 10, boxAt(0, 0, 10, 0), boxAt(0, 0, 3, 0), boxAt(3, 0, 4, 0))
	checkBoxes(t, "(t0 (t1) (t2))", wides, 5, boxAt(0, 0, 5, 0), boxAt(0, 0, 3, 0), boxAt(3, 0, 2, 0))
	checkBoxes(t, "(t0 (t2) (t1))", wides, 5, boxAt(0, 0, 5, 0), boxAt(0, 0, 4, 0), boxAt(4, 0, 1, 0))
	checkBoxes(t, "(t0 (t1) (t2))", wides, 3, boxAt(0, 0, 3, 0), boxAt(0, 0, 3, 0), boxAt(3, 0, 0, 0))
	// Both: those with widths come first, wherever they stand.
	checkBoxes(t, "(t0 'abc' (t1) (t3) (t2))", wides, 10, boxAt(0, 0, 10, 2), boxAt(0, 0, 2, 2), boxAt(2, 0, 3, 0), boxAt(5, 0, 1, 0), boxAt(6, 0, 4, 0))
	checkBoxes(t, "(t0 'abc' (t1) (t3) (t2))", wides, 7, boxAt(0, 0, 7, 0), boxAt(0, 0, 0, 0), boxAt(0, 0, 3, 0), boxAt(3, 0, 0, 0), boxAt(3, 0, 4, 0))
	// The greatest height counts, with the padding; each stands behind the room of those ahead of it, not behind their width.
	checkBoxes(t, "(t0 'a' (t3 'b' 'c' 'd') 'e')", ruled(across, ofTag(0, plain(2, 1))), 11, boxAt(0, 0, 11, 5), boxAt(1, 1, 1, 1), boxAt(4, 1, 3, 3), boxAt(4, 1, 1, 1), boxAt(4, 2, 1, 1), boxAt(4, 3, 1, 1), boxAt(7, 1, 1, 1))
	checkBoxes(t, "(t0 (t1 'b' 'c') 'a')", ruled(ofTag(0, plain(3, 60)), ofTag(1, plain(1, 1))), 4, boxAt(0, 0, 4, 1), boxAt(0, 0, 2, 1), boxAt(0, 0, 1, 1), boxAt(0, 1, 1, 1), boxAt(2, 0, 1, 1))
	checkBoxes(t, "(t0)", ruled(across), 4, boxAt(0, 0, 4, 0))
	checkBoxes(t, "(t0 '' '')", ruled(across), 4, boxAt(0, 0, 4, 0), boxAt(0, 0, 0, 0), boxAt(2, 0, 0, 0))
}

func TestBoxesOfLargeTrees(t *testing.T) {
	for _, tree := range []impl.Tree{fullTree(), flat(200), nested(24, word("abcdefghijkl")), bushy(5)} {
		for _, rules := range [][]impl.Rule{nil, {plain(2, 1)}, {plain(2, 60)}, {plain(1, 60)}, {plain(3, 1)}, {plain(0, 3), plain(3, 1), plain(2, 1)}} {
			for _, wide := range []int{0, 1, 7, 59, 60} {
				checkAllBoxes(t, tree, rules, wide)
			}
		}
	}
}

func TestBoxesOfWhatIsNotValid(t *testing.T) {
	for _, bad := range invalidTrees() {
		checkNoBoxes(t, bad, nil, 9)
		checkNoBoxes(t, bad, ruled(plain(0, 1)), 0)
	}
	for _, x := range invalidRules() {
		checkNoBoxes(t, word("a"), ruled(x), 9)
		checkNoBoxes(t, fullTree(), ruled(plain(2, 1), x), 9)
	}
	for many := 11; many < 15; many++ {
		rules := slices.Repeat(ruled(plain(2, 1)), many)
		if many > 12 {
			checkNoBoxes(t, fullTree(), rules, 9)
		} else {
			checkAllBoxes(t, fullTree(), rules, 9)
		}
	}
}

func TestBoxesChangeAndShareNothing(t *testing.T) {
	eachBoxes(200, func(_ *rand.Rand, tree impl.Tree, rules []impl.Rule, wide int) {
		before, copied := wantText(tree), slices.Clone(rules)
		checkUnshared(t, impl.BoxesOf(tree, rules, wide), tree, rules)
		impl.BoxHigh(tree, rules, wide)
		if wantText(tree) != before || !slices.Equal(rules, copied) {
			t.Errorf("%s or %v is another one now", before, copied)
		}
	})
}

func TestBoxesOfRandomTrees(t *testing.T) {
	eachBoxes(6000, func(_ *rand.Rand, tree impl.Tree, rules []impl.Rule, wide int) {
		checkAllBoxes(t, tree, rules, wide)
	})
}

func TestPromise58EachPartHasABoxOnTheScreenAcross(t *testing.T) {
	eachBoxes(2000, func(_ *rand.Rand, tree impl.Tree, rules []impl.Rule, wide int) {
		list := impl.BoxesOf(tree, rules, wide)
		if len(list) != impl.TreeSize(tree) {
			t.Errorf("%d parts have %d boxes", impl.TreeSize(tree), len(list))
		}
		for i, b := range list {
			if b.Wide < 0 || b.Wide > wide || b.High < 0 || b.Left < 0 || b.Top < 0 {
				t.Errorf("the box %d of %s with %v on a screen of %d is %v", i, brief(tree), rules, wide, b)
			}
		}
	})
}

func TestPromise59WithoutRulesATreeIsAsHighAsItHasTexts(t *testing.T) {
	eachBoxes(2000, func(r *rand.Rand, tree impl.Tree, _ []impl.Rule, _ int) {
		lines := 0
		for _, way := range waysOf(tree) {
			lines += truth(partAt(tree, way).Text != "").Num
		}
		// No text has more than 12 bytes.
		for _, wide := range []int{12, 13, 12 + r.IntN(49), 60} {
			if high := impl.BoxHigh(tree, nil, wide); high != lines {
				t.Errorf("BoxHigh(%s, no rules, %d) = %d, not %d", brief(tree), wide, high, lines)
			}
		}
	})
}
