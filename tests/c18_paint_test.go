package tests

import (
	"math"
	"math/rand/v2"
	"slices"
	"strings"
	"testing"

	"loop.example/drawnanew/impl"
)

func isIn(b impl.Box, x, y int) bool {
	return b.Left <= x && x < b.Left+b.Wide && b.Top <= y && y < b.Top+b.High
}

// canvas asks for each cell which part puts a byte there.
type canvas struct {
	ways  [][]int
	parts []impl.Tree
	boxes []impl.Box
	looks [][]int
	// around has, for each part, the numbers of those that it is in.
	around [][]int
}

func newCanvas(t impl.Tree, rules []impl.Rule, wide int) canvas {
	c := canvas{ways: waysOf(t), boxes: wantAllBoxes(t, rules, wide), looks: wantLooks(t, rules, nil, 0)}
	for _, way := range c.ways {
		c.parts = append(c.parts, partAt(t, way))
		var around []int
		for n, o := range c.ways[:len(c.around)] {
			if len(o) < len(way) && slices.Equal(o, way[:len(o)]) {
				around = append(around, n)
			}
		}
		c.around = append(c.around, around)
	}
	return c
}

// puts returns the byte that a part puts into a cell, if it does.
func (c canvas) puts(n, x, y int) (byte, bool) {
	if slices.ContainsFunc(append(slices.Clone(c.around[n]), n), func(o int) bool { return !isIn(c.boxes[o], x, y) }) {
		return 0, false
	}
	if c.parts[n].Tag < 0 {
		at := (y-c.boxes[n].Top)*c.boxes[n].Wide + x - c.boxes[n].Left
		if at >= len(c.parts[n].Text) {
			return 0, false
		}
		return c.parts[n].Text[at], true
	}
	mark := c.looks[n][4]
	return []byte{'.', ':', '-', '=', '+', '*', '#', '%', '@'}[mark%9], mark > 0
}

func (c canvas) cell(x, y int) (byte, int) {
	for n := len(c.parts) - 1; n >= 0; n-- {
		if b, ok := c.puts(n, x, y); ok {
			return b, n
		}
	}
	return ' ', -1
}

func (c canvas) rows(wide, high int) []string {
	rows := make([]string, high)
	for y := range rows {
		for x := range wide {
			b, _ := c.cell(x, y)
			rows[y] += string(b)
		}
	}
	return rows
}

func wantRows(t impl.Tree, rules []impl.Rule, wide, high int) []string {
	return newCanvas(t, rules, wide).rows(wide, high)
}

// checkAllPainted checks what is painted, and what is hit in all cells and around them.
func checkAllPainted(t *testing.T, tree impl.Tree, rules []impl.Rule, wide, high int) {
	t.Helper()
	c := newCanvas(tree, rules, wide)
	if got, want := impl.Paint(tree, rules, wide, high), c.rows(wide, high); !slices.Equal(got, want) {
		t.Errorf("Paint(%s, %v, %d, %d) = %q, not %q", brief(tree), rules, wide, high, got, want)
	}
	for x := -1; x <= wide; x++ {
		for y := -1; y <= high; y++ {
			_, want := c.cell(x, y)
			if x < 0 || y < 0 || x == wide || y == high {
				want = -1
			}
			checkHit(t, tree, rules, wide, high, x, y, want)
		}
	}
}

func checkHit(t *testing.T, tree impl.Tree, rules []impl.Rule, wide, high, x, y, want int) {
	t.Helper()
	if n := impl.HitAt(tree, rules, wide, high, x, y); n != want {
		t.Errorf("HitAt(%s, %v, %d, %d, %d, %d) = %d, not %d", brief(tree), rules, wide, high, x, y, n, want)
	}
}

func checkPainted(t *testing.T, s string, rules []impl.Rule, wide int, want ...string) {
	t.Helper()
	if got := impl.Paint(read(s), rules, wide, len(want)); !slices.Equal(got, want) {
		t.Errorf("Paint(%s, %v, %d, %d) = %q, not %q", s, rules, wide, len(want), got, want)
	}
	checkAllPainted(t, read(s), rules, wide, len(want))
}

func checkNotPainted(t *testing.T, tree impl.Tree, rules []impl.Rule, wide, high int) {
	t.Helper()
	if got := impl.Paint(tree, rules, wide, high); len(got) > 0 {
		t.Errorf("Paint(%v, %d, %d) = %q", rules, wide, high, got)
	}
	for _, at := range []int{-1, 0, 1, 59} {
		if n := impl.HitAt(tree, rules, wide, high, at, 0); n != -1 {
			t.Errorf("HitAt(%v, %d, %d, %d, 0) = %d", rules, wide, high, at, n)
		}
	}
}

func checkWay(t *testing.T, tree impl.Tree, n int, want []int, found bool) {
	t.Helper()
	if way, ok := impl.PartWay(tree, n); ok != found || !slices.Equal(way, want) {
		t.Errorf("PartWay(%s, %d) = %v, %v, not %v, %v", brief(tree), n, way, ok, want, found)
	}
}

func TestPaintConstants(t *testing.T) {
	if impl.MaxHigh != 30 {
		t.Errorf("MaxHigh is %d", impl.MaxHigh)
	}
}

func TestPaintedTexts(t *testing.T) {
	checkPainted(t, "'ab'", nil, 4, "ab  ", "    ")
	checkPainted(t, "'abcdefg'", nil, 3, "abc", "def", "g  ", "   ")
	checkPainted(t, "'abcdef'", nil, 3, "abc", "def", "   ")
	checkPainted(t, "(t0 'a' '' 'b c' '-7')", nil, 5, "a    ", "b c  ", "-7   ")
	checkPainted(t, "''", nil, 2, "  ")
	// A text of several lines that ends at the bottom, or goes on behind it.
	checkPainted(t, "(t0 'x' 'abcdefg')", nil, 3, "x  ", "abc", "def")
	checkPainted(t, "(t0 'x' 'abcdefg')", nil, 3, "x  ")
	// A text leaves the mark behind it where it has no byte, but not where it has a space.
	marked := ruled(plain(4, 1))
	checkPainted(t, "(t0 'a c' 'abcdefg')", marked, 5, "a c::", "abcde", "fg:::", "     ")
	checkHit(t, read("(t0 'a c')"), marked, 5, 1, 1, 0, 1)
	checkHit(t, read("(t0 'a c')"), marked, 5, 1, 3, 0, 0)
	checkHit(t, read("(t0 'a c')"), nil, 5, 1, 1, 0, 1)
	checkHit(t, read("(t0 'a c')"), nil, 5, 1, 3, 0, -1)
}

func TestPaintedMarks(t *testing.T) {
	for mark := range 61 {
		want := "  "
		if mark > 0 {
			want = strings.Repeat(".:-=+*#%@"[mark%9:mark%9+1], 2)
		}
		checkPainted(t, "(t0)", ruled(plain(4, mark), plain(1, 1)), 2, want, "  ")
	}
	for mark, want := range map[int]string{1: ":", 8: "@", 9: ".", 10: ":", 18: ".", 60: "#"} {
		checkPainted(t, "(t0)", ruled(plain(4, mark), plain(1, 1)), 1, want)
	}
	// A mark is handed on, and one that is 0 is none.
	handed := ruled(ofTag(0, plain(4, 3)), ofTag(2, plain(4, 8)), ofTag(3, plain(4, 0)), plain(2, 1), plain(1, 3))
	checkPainted(t, "(t0 (t1))", handed, 5, "=====", "=====", "=====", "     ")
	checkPainted(t, "(t0 (t2))", handed, 5, "=====", "=@@@=", "=@@@=", "     ")
	checkPainted(t, "(t1 (t2 'a'))", handed, 5, "     ", " @@@ ", " @a@ ", "     ")
	checkPainted(t, "(t1 (t3))", handed, 5, "     ", "     ", "     ", "     ")
	checkPainted(t, "(t0 (t3))", handed, 5, "=====", "=====", "=====", "     ")
	checkHit(t, read("(t0 (t1))"), handed, 5, 4, 1, 1, 1)
	checkHit(t, read("(t0 (t1))"), handed, 5, 4, 0, 1, 0)
	checkHit(t, read("(t0 (t3))"), handed, 5, 4, 1, 1, 0)
}

func TestPaintedWithinBoxes(t *testing.T) {
	// A text that is higher than what it is in, and one that stands beyond it.
	low := ruled(ofTag(1, plain(1, 1)), ofTag(1, plain(0, 3)), ofTag(1, plain(4, 4)))
	checkPainted(t, "(t0 (t1 'abcdefgh') 'x')", low, 5, "abc  ", "x    ", "     ")
	checkPainted(t, "(t0 (t1 'abc' 'def') 'x')", low, 5, "abc  ", "x    ", "     ")
	checkPainted(t, "(t0 (t1 (t2 'abcdefgh')))", low, 5, "abc  ", "     ", "     ")
	// What is in a low part within a high one is cut by the low one, and the other way round.
	checkPainted(t, "(t1 (t2 'abcdefgh'))", ruled(ofTag(1, plain(1, 2)), ofTag(2, plain(1, 1))), 3, "abc", "   ", "   ")
	checkPainted(t, "(t1 (t2 'abcdefgh'))", ruled(ofTag(1, plain(1, 1)), ofTag(2, plain(1, 2))), 3, "abc", "   ", "   ")
	checkPainted(t, "(t1 (t2 'abcdefgh'))", ruled(ofTag(1, plain(1, 1)), ofTag(2, plain(1, 2)), ofTag(2, plain(4, 1))), 3, "abc", "   ", "   ")
	// A padding that leaves no room, with what stands right of its box, and below it.
	checkPainted(t, "(t0 (t1 (t2)))", ruled(ofTag(1, plain(0, 2)), ofTag(1, plain(2, 2)), ofTag(2, plain(1, 3)), ofTag(2, plain(4, 3))), 6, "      ", "      ", "      ", "      ")
	checkPainted(t, "(t0 (t1 (t2)))", ruled(ofTag(1, plain(1, 2)), ofTag(1, plain(2, 2)), ofTag(2, plain(1, 3)), ofTag(2, plain(4, 3))), 6, "      ", "      ", "      ", "      ")
	checkPainted(t, "(t0 (t1 (t2)))", ruled(ofTag(1, plain(1, 3)), ofTag(1, plain(2, 2)), ofTag(2, plain(1, 3)), ofTag(2, plain(4, 3))), 6, "      ", "      ", "  ==  ", "      ")
	// Those behind paint over those ahead, and what is in a part over it.
	checkPainted(t, "(t0 (t1 'abc') 'x')", ruled(ofTag(0, plain(4, 1)), ofTag(1, plain(4, 2)), ofTag(1, plain(1, 2))), 4, "abc-", "----", "x:::", "    ")
}

func TestPaintedOnTheScreen(t *testing.T) {
	rules := ruled(ofTag(0, plain(3, 1)), ofTag(1, plain(0, 9)), ofTag(1, plain(1, 4)), ofTag(1, plain(4, 5)))
	checkPainted(t, "(t0 (t1 'abcdefghijkl'))", rules, 5, "abcde", "fghij")
	checkPainted(t, "(t0 (t1 'abcdefghijkl'))", rules, 5, "abcde")
	checkPainted(t, "(t0 (t1 'abcdefghijkl'))", rules, 5, "abcde", "fghij", "kl***", "*****", "     ")
	checkPainted(t, "(t0 (t1 'abcdefghijkl'))", rules, 5)
	checkPainted(t, "(t0 (t1 'abcdefghijkl'))", rules, 0, "", "", "")
	checkPainted(t, "(t0 (t1 'abcdefghijkl'))", rules, 0)
	// What stands right of the screen.
	checkPainted(t, "(t0 (t1))", ruled(ofTag(0, plain(2, 3)), ofTag(1, plain(1, 2)), ofTag(1, plain(4, 1))), 2, "  ", "  ", "  ", "  ", "  ")
	tree := read("(t0 (t1 'abcdefghijkl' (t2)) 'abcdefghijkl')")
	for n := -2; n <= 63; n++ {
		if n < 0 || n > 60 {
			checkNotPainted(t, tree, rules, n, 5)
		} else {
			checkAllPainted(t, tree, rules, n, 5)
		}
		if n < 0 || n > 30 {
			checkNotPainted(t, tree, rules, 5, n)
		} else {
			checkAllPainted(t, tree, rules, 5, n)
		}
	}
	for _, n := range []int{math.MinInt, -1 << 32, 1 << 32, math.MaxInt} {
		checkNotPainted(t, tree, rules, n, 5)
		checkNotPainted(t, tree, rules, 5, n)
		checkHit(t, tree, rules, 5, 5, n, 0, -1)
		checkHit(t, tree, rules, 5, 5, 0, n, -1)
	}
	checkAllPainted(t, tree, rules, 60, 30)
}

func TestHitAtCornersOfBoxes(t *testing.T) {
	tree := read("(t0 (t1 (t2)))")
	rules := ruled(ofTag(0, plain(2, 1)), ofTag(1, plain(2, 1)), ofTag(2, plain(1, 2)), plain(4, 1))
	for n, b := range []impl.Box{boxAt(0, 0, 9, 6), boxAt(1, 1, 7, 4), boxAt(2, 2, 5, 2)} {
		right, bottom := b.Left+b.Wide-1, b.Top+b.High-1
		for _, corner := range [][2]int{{b.Left, b.Top}, {right, b.Top}, {b.Left, bottom}, {right, bottom}} {
			checkHit(t, tree, rules, 9, 7, corner[0], corner[1], n)
		}
		checkHit(t, tree, rules, 9, 7, b.Left-1, b.Top, n-1)
		checkHit(t, tree, rules, 9, 7, b.Left, b.Top-1, n-1)
		checkHit(t, tree, rules, 9, 7, right+1, bottom, n-1)
		checkHit(t, tree, rules, 9, 7, right, bottom+1, n-1)
	}
}

func TestPartWay(t *testing.T) {
	for _, tree := range []impl.Tree{fullTree(), flat(200), nested(24, word("a")), bushy(5), word("a"), elem(0, 3)} {
		ways := waysOf(tree)
		for n, way := range ways {
			checkWay(t, tree, n, way, true)
		}
		for _, n := range []int{math.MinInt, -200, -2, -1, len(ways), len(ways) + 1, 1 << 32, math.MaxInt} {
			checkWay(t, tree, n, nil, false)
		}
	}
	for _, bad := range invalidTrees() {
		for _, n := range []int{-1, 0, 1, 5} {
			checkWay(t, bad, n, nil, false)
		}
	}
}

func TestPaintedOfWhatIsNotValid(t *testing.T) {
	for _, bad := range invalidTrees() {
		checkNotPainted(t, bad, ruled(plain(4, 1), plain(1, 5)), 9, 5)
	}
	for _, x := range invalidRules() {
		checkNotPainted(t, fullTree(), ruled(plain(4, 1), plain(1, 5), x), 9, 5)
	}
	checkNotPainted(t, fullTree(), slices.Repeat(ruled(plain(4, 1)), 13), 9, 5)
}

func TestPaintingChangesAndSharesNothing(t *testing.T) {
	eachBoxes(200, func(r *rand.Rand, tree impl.Tree, rules []impl.Rule, wide int) {
		before, copied := wantText(tree), slices.Clone(rules)
		checkUnshared(t, impl.Paint(tree, rules, wide, 9), tree, rules)
		impl.HitAt(tree, rules, wide, 9, 3, 1)
		way, _ := impl.PartWay(tree, r.IntN(countOf(tree)))
		checkUnshared(t, way, tree)
		if wantText(tree) != before || !slices.Equal(rules, copied) {
			t.Errorf("%s or %v is another one now", before, copied)
		}
	})
}

func TestPaintedRandomTrees(t *testing.T) {
	eachBoxes(1200, func(r *rand.Rand, tree impl.Tree, rules []impl.Rule, wide int) {
		checkAllPainted(t, tree, rules, wide%25, r.IntN(12))
	})
}

func TestPromise60WhatIsPaintedHasTheSidesOfTheScreen(t *testing.T) {
	eachBoxes(1500, func(r *rand.Rand, tree impl.Tree, rules []impl.Rule, wide int) {
		high := r.IntN(31)
		rows := impl.Paint(tree, rules, wide, high)
		if len(rows) != high || slices.ContainsFunc(rows, func(row string) bool { return len(row) != wide }) {
			t.Errorf("Paint(%s, %v, %d, %d) = %q", brief(tree), rules, wide, high, rows)
		}
	})
}

func TestPromise61WhereAPartIsHitItStands(t *testing.T) {
	hits := 0
	eachBoxes(1500, func(r *rand.Rand, tree impl.Tree, rules []impl.Rule, wide int) {
		boxes := impl.BoxesOf(tree, rules, wide)
		for range 20 {
			x, y := r.IntN(wide+1), r.IntN(9)
			n := impl.HitAt(tree, rules, wide, 9, x, y)
			if n >= 0 && !isIn(boxes[n], x, y) {
				t.Errorf("HitAt(%s, %v, %d, 9, %d, %d) = %d, the box of which is %v", brief(tree), rules, wide, x, y, n, boxes[n])
			}
			hits += truth(n >= 0).Num
		}
	})
	if hits < 3000 {
		t.Errorf("%d cells are hit", hits)
	}
}

func TestPromise62AWayToAPartLeadsToIt(t *testing.T) {
	eachBoxes(800, func(_ *rand.Rand, tree impl.Tree, _ []impl.Rule, _ int) {
		for n, want := range waysOf(tree) {
			way, ok := impl.PartWay(tree, n)
			part, there := impl.TreeAt(tree, way)
			if !ok || !there || len(way) > n || !same(part, partAt(tree, want)) {
				t.Errorf("PartWay(%s, %d) = %v, %v", brief(tree), n, way, ok)
			}
		}
	})
}
