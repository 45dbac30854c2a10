package tests

import (
	"math"
	"math/rand/v2"
	"slices"
	"strings"
	"testing"

	"loop.example/drawnanew/impl"
)

// wantDamage takes the ends of all columns and rows in which cells differ.
func wantDamage(a, b []string) impl.Box {
	var xs, ys []int
	for y := range a {
		for x := range a[y] {
			if a[y][x] != b[y][x] {
				xs, ys = append(xs, x), append(ys, y)
			}
		}
	}
	if len(xs) == 0 {
		return impl.Box{}
	}
	return boxAt(slices.Min(xs), slices.Min(ys), slices.Max(xs)-slices.Min(xs)+1, slices.Max(ys)-slices.Min(ys)+1)
}

func wantRepainted(rows []string, t impl.Tree, rules []impl.Rule, wide, high int, b impl.Box) []string {
	anew := wantRows(t, rules, wide, high)
	out := make([]string, high)
	for y := range high {
		for x := range wide {
			from := rows
			if isIn(b, x, y) {
				from = anew
			}
			out[y] += from[y][x : x+1]
		}
	}
	return out
}

func checkAllDamage(t *testing.T, a, b impl.Tree, rules []impl.Rule, wide, high int) impl.Box {
	t.Helper()
	want := wantDamage(wantRows(a, rules, wide, high), wantRows(b, rules, wide, high))
	for _, two := range [][2]impl.Tree{{a, b}, {b, a}} {
		if got := impl.DamageOf(two[0], two[1], rules, wide, high); got != want {
			t.Errorf("DamageOf(%s, %s, %v, %d, %d) = %v, not %v", brief(two[0]), brief(two[1]), rules, wide, high, got, want)
		}
	}
	return want
}

func checkDamage(t *testing.T, a, b string, rules []impl.Rule, wide, high int, want impl.Box) {
	t.Helper()
	if got := checkAllDamage(t, read(a), read(b), rules, wide, high); got != want {
		t.Errorf("the damage of %s to %s is %v, not %v", a, b, got, want)
	}
}

func checkNoDamage(t *testing.T, a, b impl.Tree, rules []impl.Rule, wide, high int) {
	t.Helper()
	for _, two := range [][2]impl.Tree{{a, b}, {b, a}} {
		if got := impl.DamageOf(two[0], two[1], rules, wide, high); got != (impl.Box{}) {
			t.Errorf("DamageOf(%v, %d, %d) = %v", rules, wide, high, got)
		}
	}
}

func checkRepainted(t *testing.T, rows []string, tree impl.Tree, rules []impl.Rule, wide int, b impl.Box) {
	t.Helper()
	want := wantRepainted(rows, tree, rules, wide, len(rows), b)
	if got := impl.Repaint(rows, tree, rules, wide, len(rows), b); !slices.Equal(got, want) {
		t.Errorf("Repaint(%q, %s, %v, %d, %v) = %q, not %q", rows, brief(tree), rules, wide, b, got, want)
	}
}

func checkNotRepainted(t *testing.T, rows []string, tree impl.Tree, rules []impl.Rule, wide, high int, b impl.Box) {
	t.Helper()
	if got := impl.Repaint(rows, tree, rules, wide, high, b); len(got) > 0 {
		t.Errorf("Repaint(%q, %s, %v, %d, %d, %v) = %q", rows, brief(tree), rules, wide, high, b, got)
	}
}

// checkMeet checks what two boxes have in common, both ways round.
func checkMeet(t *testing.T, a, b, want impl.Box) {
	t.Helper()
	for _, two := range [][2]impl.Box{{a, b}, {b, a}} {
		if got := impl.BoxMeet(two[0], two[1]); got != want {
			t.Errorf("BoxMeet(%v, %v) = %v, not %v", two[0], two[1], got, want)
		}
	}
}

// endBoxes have one number each at the ends of its range.
func endBoxes() []impl.Box {
	return []impl.Box{
		boxAt(-100000, 0, 5, 5), boxAt(100000, 0, 5, 5), boxAt(0, -100000, 5, 5), boxAt(0, 100000, 5, 5),
		boxAt(0, 0, 100000, 5), boxAt(0, 0, 5, 100000), boxAt(0, 0, 0, 5), boxAt(0, 0, 5, 0),
		boxAt(-100000, -100000, 100000, 100000), boxAt(100000, 100000, 100000, 100000), {},
	}
}

// invalidBoxes have one number each beyond its range.
func invalidBoxes() []impl.Box {
	var list []impl.Box
	for _, n := range []int{math.MinInt, -1 << 32, -100002, -100001, 100001, 100002, 1 << 32, math.MaxInt} {
		list = append(list, boxAt(n, 0, 5, 5), boxAt(0, n, 5, 5), boxAt(0, 0, n, 5), boxAt(0, 0, 5, n))
	}
	for _, n := range []int{-100000, -2, -1} {
		list = append(list, boxAt(0, 0, n, 5), boxAt(0, 0, 5, n))
	}
	return list
}

func TestDamageConstants(t *testing.T) {
	if impl.MaxSide != 100000 {
		t.Errorf("MaxSide is %d", impl.MaxSide)
	}
}

func TestDamageOf(t *testing.T) {
	checkDamage(t, "(t0 'abc' 'x')", "(t0 'abc' 'x')", nil, 5, 3, impl.Box{})
	// One cell, at the corners and in the middle.
	for x := range 3 {
		s := []byte("abc")
		s[x] = 'x'
		checkDamage(t, "(t0 'abc')", "(t0 '"+string(s)+"')", nil, 3, 1, boxAt(x, 0, 1, 1))
		checkDamage(t, "(t0 'z' 'abc' 'z')", "(t0 'z' '"+string(s)+"' 'z')", nil, 5, 4, boxAt(x, 1, 1, 1))
	}
	// Two corners, both ways across.
	checkDamage(t, "(t0 'abc' 'def' 'ghi')", "(t0 'xbc' 'def' 'ghx')", nil, 3, 3, boxAt(0, 0, 3, 3))
	checkDamage(t, "(t0 'abc' 'def' 'ghi')", "(t0 'abx' 'def' 'xhi')", nil, 3, 3, boxAt(0, 0, 3, 3))
	checkDamage(t, "(t0 'abcd' 'abcd')", "(t0 'axcd' 'abxd')", nil, 4, 5, boxAt(1, 0, 2, 2))
	checkDamage(t, "(t0 'abcd' 'z' 'abcd')", "(t0 'abxd' 'z' 'axcd')", nil, 4, 5, boxAt(1, 0, 2, 3))
	// All cells.
	checkDamage(t, "(t0)", "(t1)", ruled(plain(1, 60), ofTag(1, plain(4, 3))), 60, 30, boxAt(0, 0, 60, 30))
	checkDamage(t, "(t0)", "(t1)", ruled(plain(1, 60), ofTag(1, plain(4, 3))), 1, 1, boxAt(0, 0, 1, 1))
	// Only outside the screen, or not at all.
	checkDamage(t, "(t0 'a' 'b' 'c')", "(t0 'a' 'b' 'd')", nil, 3, 2, impl.Box{})
	checkDamage(t, "(t0 'a' 'b' 'c')", "(t0 'a' 'b' 'd')", nil, 3, 0, impl.Box{})
	checkDamage(t, "(t0 'a' 'b' 'c')", "(t0 'a' 'b' 'd')", nil, 0, 3, impl.Box{})
	checkDamage(t, "(t0 (t1 'a'))", "(t0 k5 p1=3 (t2 (t3) 'a') '')", nil, 5, 3, impl.Box{})
	checkDamage(t, "(t0 'a' ' ')", "(t0 'a')", nil, 5, 3, impl.Box{})
}

func TestDamageOfWhatIsNotValid(t *testing.T) {
	good, other := read("(t0 'abc')"), read("(t0 'xyz')")
	for _, bad := range invalidTrees() {
		checkNoDamage(t, bad, good, nil, 5, 5)
		checkNoDamage(t, bad, bad, nil, 5, 5)
	}
	for _, x := range invalidRules() {
		checkNoDamage(t, good, other, ruled(x), 5, 5)
	}
	for _, n := range []int{math.MinInt, -2, -1, 61, 1 << 32, math.MaxInt} {
		checkNoDamage(t, good, other, nil, n, 5)
		checkNoDamage(t, good, other, nil, 5, n)
	}
	checkNoDamage(t, good, other, nil, 5, 31)
	checkAllDamage(t, good, other, nil, 60, 30)
}

func TestRepaint(t *testing.T) {
	tree := read("(t0 'abcde' 'fghij' 'k')")
	rows := []string{"ABCDE", "\x00\xff é", "-----", "     "}
	for _, b := range []impl.Box{
		{}, boxAt(0, 0, 5, 4), boxAt(1, 1, 2, 1), boxAt(4, 3, 1, 1), boxAt(0, 2, 1, 1), boxAt(2, 0, 1, 4),
		// Without cells.
		boxAt(2, 2, 0, 2), boxAt(2, 2, 2, 0), boxAt(9, 9, 0, 0), boxAt(-3, -3, 0, 0),
		// Beyond the screen on each side, partly and wholly.
		boxAt(-2, 1, 4, 1), boxAt(3, 1, 9, 1), boxAt(1, -5, 1, 7), boxAt(1, 2, 1, 9), boxAt(-9, -9, 30, 30),
		boxAt(-5, 0, 5, 4), boxAt(5, 0, 5, 4), boxAt(0, -4, 5, 4), boxAt(0, 4, 5, 4), boxAt(60, 1, 5, 2), boxAt(1, 30, 2, 5),
	} {
		checkRepainted(t, rows, tree, nil, 5, b)
		checkRepainted(t, rows, tree, ruled(plain(4, 3), plain(2, 1)), 5, b)
	}
	for _, b := range endBoxes() {
		checkRepainted(t, rows, tree, nil, 5, b)
	}
	for _, b := range invalidBoxes() {
		checkNotRepainted(t, rows, tree, nil, 5, 4, b)
	}
	if got := impl.Repaint(rows, tree, nil, 5, 4, boxAt(1, 0, 3, 2)); !slices.Equal(got, []string{"AbcdE", "\x00ghi\xa9", "-----", "     "}) {
		t.Errorf("Repaint = %q", got)
	}
	checkRepainted(t, nil, tree, nil, 5, boxAt(0, 0, 9, 9))
	checkRepainted(t, []string{"", "", ""}, tree, nil, 0, boxAt(0, 0, 9, 9))
	checkRepainted(t, slices.Repeat([]string{strings.Repeat("Z", 60)}, 30), fullTree(), nil, 60, boxAt(1, 1, 58, 28))
}

func TestRepaintOfWhatIsNotValid(t *testing.T) {
	tree, rows, all := read("(t0 'abc')"), []string{"123", "456"}, boxAt(0, 0, 3, 2)
	checkRepainted(t, rows, tree, nil, 3, all)
	// Rows of a wrong number, or one of a wrong width.
	for _, other := range [][]string{nil, {}, {"123"}, {"123", "456", "789"}, {"123", "45"}, {"12", "456"}, {"123", "4567"}, {"1234", "456"}, {"", ""}, {"123", ""}, {"12é", "456"}} {
		checkNotRepainted(t, other, tree, nil, 3, 2, all)
	}
	for _, n := range []int{math.MinInt, -1, 1, 3, 31, math.MaxInt} {
		checkNotRepainted(t, rows, tree, nil, 3, n, all)
	}
	for _, n := range []int{math.MinInt, -1, 2, 4, 61, math.MaxInt} {
		checkNotRepainted(t, rows, tree, nil, n, 2, all)
	}
	checkNotRepainted(t, slices.Repeat([]string{"123"}, 31), tree, nil, 3, 31, all)
	checkNotRepainted(t, []string{strings.Repeat("1", 61)}, tree, nil, 61, 1, all)
	for _, bad := range invalidTrees() {
		checkNotRepainted(t, rows, bad, nil, 3, 2, all)
		checkNotRepainted(t, rows, bad, nil, 3, 2, impl.Box{})
	}
	for _, x := range invalidRules() {
		checkNotRepainted(t, rows, tree, ruled(x), 3, 2, all)
		checkNotRepainted(t, rows, tree, ruled(x), 3, 2, impl.Box{})
	}
}

func TestBoxMeet(t *testing.T) {
	a := boxAt(10, 20, 5, 7)
	for _, c := range [][2]impl.Box{
		{a, a},
		// In each other, and across.
		{boxAt(11, 21, 2, 3), boxAt(11, 21, 2, 3)},
		{boxAt(0, 0, 50, 50), a},
		{boxAt(12, 0, 1, 50), boxAt(12, 20, 1, 7)},
		{boxAt(8, 18, 4, 4), boxAt(10, 20, 2, 2)},
		{boxAt(14, 26, 9, 9), boxAt(14, 26, 1, 1)},
		// They touch on each side, or do not meet.
		{boxAt(15, 20, 3, 7), boxAt(15, 20, 0, 7)},
		{boxAt(7, 20, 3, 7), boxAt(10, 20, 0, 7)},
		{boxAt(10, 27, 5, 3), boxAt(10, 27, 5, 0)},
		{boxAt(10, 17, 5, 3), boxAt(10, 20, 5, 0)},
		{boxAt(30, 21, 3, 3), boxAt(30, 21, 0, 3)},
		{boxAt(-30, 40, 3, 3), boxAt(10, 40, 0, 0)},
		// Without cells.
		{boxAt(12, 22, 0, 0), boxAt(12, 22, 0, 0)},
		{boxAt(12, 22, 0, 99), boxAt(12, 22, 0, 5)},
		{impl.Box{}, boxAt(10, 20, 0, 0)},
	} {
		checkMeet(t, a, c[0], c[1])
	}
	checkMeet(t, boxAt(-100000, -100000, 100000, 100000), boxAt(-5, -6, 100000, 100000), boxAt(-5, -6, 5, 6))
	checkMeet(t, boxAt(100000, 100000, 100000, 100000), boxAt(100000, 100000, 3, 4), boxAt(100000, 100000, 3, 4))
	checkMeet(t, boxAt(-100000, -100000, 1, 1), boxAt(100000, 100000, 1, 1), boxAt(100000, 100000, 0, 0))
	for _, bad := range invalidBoxes() {
		for _, b := range append(endBoxes(), a, bad) {
			checkMeet(t, bad, b, impl.Box{})
		}
	}
	checkMeet(t, impl.Box{}, impl.Box{}, impl.Box{})
}

func randomBox(r *rand.Rand, far, side int) impl.Box {
	return boxAt(r.IntN(2*far+1)-far, r.IntN(2*far+1)-far, r.IntN(side+1), r.IntN(side+1))
}

func TestBoxMeetOfRandomBoxes(t *testing.T) {
	r := rand.New(rand.NewPCG(19, 20))
	for range 2000 {
		a, b := randomBox(r, 5, 6), randomBox(r, 5, 6)
		m := impl.BoxMeet(a, b)
		for x := -6; x < 13; x++ {
			for y := -6; y < 13; y++ {
				if isIn(m, x, y) != (isIn(a, x, y) && isIn(b, x, y)) {
					t.Errorf("BoxMeet(%v, %v) = %v, as for %d, %d", a, b, m, x, y)
				}
			}
		}
		if m.Left != max(a.Left, b.Left) || m.Top != max(a.Top, b.Top) || m.Wide < 0 || m.High < 0 {
			t.Errorf("BoxMeet(%v, %v) = %v", a, b, m)
		}
	}
}

// eachDamage calls with random trees that have much in common, rules, and a screen.
func eachDamage(many int, visit func(r *rand.Rand, a, b impl.Tree, rules []impl.Rule, wide, high int)) {
	r := rand.New(rand.NewPCG(19, 21))
	for range many {
		a := boxTree(r)
		b := changed(r, a)
		if impl.TreeOk(b) {
			visit(r, a, b, boxRules(r, a), r.IntN(20), r.IntN(9))
		}
	}
}

func TestDamageChangesAndSharesNothing(t *testing.T) {
	eachDamage(200, func(r *rand.Rand, a, b impl.Tree, rules []impl.Rule, wide, high int) {
		textA, textB, copied := wantText(a), wantText(b), slices.Clone(rules)
		rows := impl.Paint(a, rules, wide, high)
		before := slices.Clone(rows)
		rows = append(make([]string, 0, high+3), rows...)
		checkUnshared(t, impl.Repaint(rows, b, rules, wide, high, impl.DamageOf(a, b, rules, wide, high)), rows, b, rules)
		checkUnshared(t, impl.Repaint(rows, b, rules, wide, high, impl.Box{}), rows, b, rules)
		if wantText(a) != textA || wantText(b) != textB || !slices.Equal(rows, before) || !slices.Equal(rules, copied) {
			t.Errorf("%s, %s, %v or the rows are other ones now", textA, textB, copied)
		}
	})
}

func TestDamageOfRandomTrees(t *testing.T) {
	found := map[bool]int{}
	eachDamage(1500, func(r *rand.Rand, a, b impl.Tree, rules []impl.Rule, wide, high int) {
		found[checkAllDamage(t, a, b, rules, wide, high) != impl.Box{}]++
		checkRepainted(t, wantRows(a, nil, wide, high), b, rules, wide, randomBox(r, 9, 12))
	})
	if found[true] < 200 || found[false] < 200 {
		t.Errorf("of the trees %v look different", found)
	}
}

func TestPromise63WhatLooksTheSameHasNoDamage(t *testing.T) {
	eachDamage(1000, func(_ *rand.Rand, a, b impl.Tree, rules []impl.Rule, wide, high int) {
		checkNoDamage(t, a, a, rules, wide, high)
		if there, back := impl.DamageOf(a, b, rules, wide, high), impl.DamageOf(b, a, rules, wide, high); there != back {
			t.Errorf("DamageOf(%s, %s, %v, %d, %d) = %v, and %v the other way round", brief(a), brief(b), rules, wide, high, there, back)
		}
	})
}

func TestPromise64WhatIsPaintedInTheWholeScreenIsPaintedAnew(t *testing.T) {
	eachDamage(1000, func(r *rand.Rand, a, b impl.Tree, rules []impl.Rule, wide, high int) {
		whole := boxAt(-r.IntN(2), -r.IntN(2), wide+1+r.IntN(3), high+1+r.IntN(3))
		if r.IntN(2) == 0 {
			whole = boxAt(0, 0, wide, high)
		}
		rows := impl.Repaint(impl.Paint(a, rules, wide, high), b, rules, wide, high, whole)
		if want := impl.Paint(b, rules, wide, high); !slices.Equal(rows, want) {
			t.Errorf("Repaint(%s, %v) of all cells = %q, not %q", brief(b), rules, rows, want)
		}
	})
}

func TestPromise65WhatTwoBoxesHaveInCommonIsInBoth(t *testing.T) {
	r := rand.New(rand.NewPCG(19, 22))
	check := func(a, b impl.Box) {
		m := impl.BoxMeet(a, b)
		checkMeet(t, a, b, m)
		checkMeet(t, m, a, m)
		checkMeet(t, m, b, m)
		checkMeet(t, a, a, a)
		for _, in := range []impl.Box{a, b} {
			if m.Wide*m.High > 0 && (m.Left < in.Left || m.Top < in.Top || m.Left+m.Wide > in.Left+in.Wide || m.Top+m.High > in.Top+in.High) {
				t.Errorf("BoxMeet(%v, %v) = %v is not in %v", a, b, m, in)
			}
		}
	}
	for range 2000 {
		check(randomBox(r, 100000, 100000), randomBox(r, 100000, 100000))
		check(randomBox(r, 9, 9), randomBox(r, 9, 9))
	}
	for _, a := range endBoxes() {
		for _, b := range endBoxes() {
			check(a, b)
		}
	}
}

func TestPromise101ByPaintingTheDamageAScreenLooksAsIfPaintedAnew(t *testing.T) {
	eachDamage(1500, func(_ *rand.Rand, a, b impl.Tree, rules []impl.Rule, wide, high int) {
		damage := impl.DamageOf(a, b, rules, wide, high)
		rows := impl.Repaint(impl.Paint(a, rules, wide, high), b, rules, wide, high, damage)
		if want := wantRows(b, rules, wide, high); !slices.Equal(rows, want) {
			t.Errorf("Repaint(%s, %v) in %v = %q, not %q", brief(b), rules, damage, rows, want)
		}
	})
}
