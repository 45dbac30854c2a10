package tests

import (
	"math/big"
	"math/rand/v2"
	"slices"
	"testing"

	"loop.example/drawnanew/impl"
)

// wantStep goes on from a number by the whole ones of the part of the difference, whatever its sign.
func wantStep(a, b, step, of int) int {
	if b < a {
		return -wantStep(-a, -b, step, of)
	}
	n := a
	for (n+1-a)*of <= (b-a)*step {
		n++
	}
	return n
}

func wantBetween(a, b impl.Box, step, of int) impl.Box {
	part := func(a, b int) int {
		n := big.NewInt(int64((b - a) * step))
		return a + int(n.Quo(n, big.NewInt(int64(of))).Int64())
	}
	return boxAt(part(a.Left, b.Left), part(a.Top, b.Top), part(a.Wide, b.Wide), part(a.High, b.High))
}

func checkBetween(t *testing.T, a, b impl.Box, step, of int, want impl.Box) {
	t.Helper()
	if got := impl.BoxBetween(a, b, step, of); got != want {
		t.Errorf("BoxBetween(%v, %v, %d, %d) = %v, not %v", a, b, step, of, got, want)
	}
}

func wantMoved(a, b impl.Tree, rules []impl.Rule, wide, step, of int) []impl.Box {
	from, to := wantAllBoxes(a, rules, wide), wantAllBoxes(b, rules, wide)
	ways := waysOf(b)
	for n, way := range waysOf(a) {
		if after, ok := wantAfter(a, b, way); ok {
			at := wantPlace(ways, after)
			to[at] = wantBetween(from[n], to[at], step, of)
		}
	}
	return to
}

func checkAllMoved(t *testing.T, a, b impl.Tree, rules []impl.Rule, wide, step, of int) {
	t.Helper()
	want := wantMoved(a, b, rules, wide, step, of)
	if got := impl.BoxesMoved(a, b, rules, wide, step, of); !slices.Equal(got, want) {
		t.Errorf("BoxesMoved(%s, %s, %v, %d, %d, %d) = %v, not %v", brief(a), brief(b), rules, wide, step, of, got, want)
	}
}

func checkMoved(t *testing.T, a, b string, wide, step, of int, want ...impl.Box) {
	t.Helper()
	if got := impl.BoxesMoved(read(a), read(b), nil, wide, step, of); !slices.Equal(got, want) {
		t.Errorf("BoxesMoved(%s, %s, %d, %d, %d) = %v, not %v", a, b, wide, step, of, got, want)
	}
	checkAllMoved(t, read(a), read(b), nil, wide, step, of)
}

func checkNotMoved(t *testing.T, a, b impl.Tree, rules []impl.Rule, wide, step, of int) {
	t.Helper()
	for _, two := range [][2]impl.Tree{{a, b}, {b, a}} {
		if got := impl.BoxesMoved(two[0], two[1], rules, wide, step, of); len(got) > 0 {
			t.Errorf("BoxesMoved(%v, %d, %d, %d) = %v", rules, wide, step, of, got)
		}
	}
}

func checkNumber(t *testing.T, tree impl.Tree, way []int, want int) {
	t.Helper()
	if n := impl.PartNumber(tree, way); n != want {
		t.Errorf("PartNumber(%s, %v) = %d, not %d", brief(tree), way[:min(len(way), 30)], n, want)
	}
}

func TestMovingConstants(t *testing.T) {
	if impl.MaxSteps != 100 {
		t.Errorf("MaxSteps is %d", impl.MaxSteps)
	}
}

func TestBoxBetween(t *testing.T) {
	a, b := boxAt(0, 10, 4, 1), boxAt(10, 0, 4, 4)
	for step, want := range []impl.Box{a, boxAt(2, 8, 4, 1), boxAt(5, 5, 4, 2), boxAt(7, 3, 4, 3), b} {
		checkBetween(t, a, b, step, 4, want)
	}
	// Differences that the steps do not divide, below 0 and above, without what is left of a whole one.
	for diff := -20; diff <= 20; diff++ {
		for of := 1; of <= 9; of++ {
			for step := range of + 1 {
				checkBetween(t, boxAt(3, -3, 30, 0), boxAt(3+diff, -3-diff, 30+diff, 0), step, of, boxAt(wantStep(3, 3+diff, step, of), wantStep(-3, -3-diff, step, of), wantStep(30, 30+diff, step, of), 0))
			}
		}
	}
	checkBetween(t, boxAt(0, 0, 0, 7), boxAt(0, 0, 0, 0), 1, 2, boxAt(0, 0, 0, 4))
	checkBetween(t, boxAt(-7, 7, 0, 0), boxAt(0, 0, 0, 0), 1, 2, boxAt(-4, 4, 0, 0))
	far, near := boxAt(-100000, 100000, 0, 100000), boxAt(100000, -100000, 100000, 0)
	checkBetween(t, far, near, 50, 100, boxAt(0, 0, 50000, 50000))
	checkBetween(t, far, near, 99, 100, boxAt(98000, -98000, 99000, 1000))
	checkBetween(t, far, near, 1, 3, boxAt(-33334, 33334, 33333, 66667))
}

func TestBoxBetweenOfSteps(t *testing.T) {
	a, b := boxAt(1, 2, 3, 4), boxAt(60, 70, 80, 90)
	for of := -3; of <= 104; of++ {
		for step := -3; step <= of+3; step++ {
			want := impl.Box{}
			if of >= 1 && of <= 100 && step >= 0 && step <= of {
				want = wantBetween(a, b, step, of)
			}
			checkBetween(t, a, b, step, of, want)
		}
	}
	for _, n := range beyond(0, 100) {
		checkBetween(t, a, b, n, 100, impl.Box{})
		checkBetween(t, a, b, 0, n, impl.Box{})
		checkBetween(t, a, b, 1, n, impl.Box{})
		checkBetween(t, a, b, n, n, impl.Box{})
	}
	for _, bad := range invalidBoxes() {
		for _, step := range []int{0, 1, 2} {
			checkBetween(t, bad, a, step, 2, impl.Box{})
			checkBetween(t, a, bad, step, 2, impl.Box{})
			checkBetween(t, bad, bad, step, 2, impl.Box{})
		}
	}
	for _, end := range endBoxes() {
		checkBetween(t, end, a, 1, 3, wantBetween(end, a, 1, 3))
		checkBetween(t, a, end, 1, 3, wantBetween(a, end, 1, 3))
	}
}

func TestPartNumber(t *testing.T) {
	for _, tree := range []impl.Tree{fullTree(), flat(200), nested(24, word("a")), bushy(5), word("a"), elem(0, 3)} {
		for n, way := range waysOf(tree) {
			checkNumber(t, tree, way, n)
		}
		for _, way := range otherWays(tree) {
			checkNumber(t, tree, way, -1)
		}
	}
	for _, bad := range invalidTrees() {
		for _, way := range [][]int{nil, {0}, {0, 0}, {-1}} {
			checkNumber(t, bad, way, -1)
		}
	}
}

func TestBoxesMoved(t *testing.T) {
	const a, b = "(t0 (t1 k0 'a') (t1 k1 'b' 'c'))", "(t0 (t1 k1 'b' 'c') (t1 k0 'a'))"
	checkMoved(t, a, b, 9, 0, 2, boxAt(0, 0, 9, 3), boxAt(0, 1, 9, 2), boxAt(0, 1, 1, 1), boxAt(0, 2, 1, 1), boxAt(0, 0, 9, 1), boxAt(0, 0, 1, 1))
	checkMoved(t, a, b, 9, 1, 2, boxAt(0, 0, 9, 3), boxAt(0, 1, 9, 2), boxAt(0, 1, 1, 1), boxAt(0, 2, 1, 1), boxAt(0, 1, 9, 1), boxAt(0, 1, 1, 1))
	checkMoved(t, a, b, 9, 2, 2, boxAt(0, 0, 9, 3), boxAt(0, 0, 9, 2), boxAt(0, 0, 1, 1), boxAt(0, 1, 1, 1), boxAt(0, 2, 9, 1), boxAt(0, 2, 1, 1))
	// Parts that are new stand where they are in the end, those that are gone do not count.
	checkMoved(t, "(t0 'a' 'b' (t1 'c'))", "(t0 (t2 'x') (t1 'cdef') 'b')", 9, 0, 3, boxAt(0, 0, 9, 3), boxAt(0, 0, 9, 1), boxAt(0, 0, 1, 1), boxAt(0, 2, 9, 1), boxAt(0, 2, 1, 1), boxAt(0, 0, 1, 1))
	checkMoved(t, "(t0 'a')", "(t0 'a' 'b')", 9, 0, 1, boxAt(0, 0, 9, 1), boxAt(0, 0, 1, 1), boxAt(0, 1, 1, 1))
	checkMoved(t, "(t0 'a' 'b')", "(t0 'a')", 9, 0, 1, boxAt(0, 0, 9, 2), boxAt(0, 0, 1, 1))
	// With another tag or key, nothing has a partner.
	for step := range 4 {
		checkMoved(t, "(t0 'a' 'b')", "(t1 'a')", 9, step, 3, boxAt(0, 0, 9, 1), boxAt(0, 0, 1, 1))
		checkMoved(t, "(t0 'a' 'b')", "(t0 k1 'a')", 9, step, 3, boxAt(0, 0, 9, 1), boxAt(0, 0, 1, 1))
		checkMoved(t, "(t0 (t1 k0 'a' 'b'))", "(t0 (t1 k1 'a'))", 9, step, 3, boxAt(0, 0, 9, 2-step/3), boxAt(0, 0, 9, 1), boxAt(0, 0, 1, 1))
	}
	checkMoved(t, "'abcdefgh'", "'ab'", 3, 1, 2, boxAt(0, 0, 3, 2))
}

func TestBoxesMovedOfWhatIsNotValid(t *testing.T) {
	good, other := read("(t0 (t1 'a') 'b')"), read("(t0 'b' (t1 'a' 'c'))")
	for _, bad := range invalidTrees() {
		checkNotMoved(t, bad, good, nil, 9, 1, 2)
		checkNotMoved(t, bad, bad, nil, 9, 1, 2)
	}
	for _, x := range invalidRules() {
		checkNotMoved(t, good, other, ruled(x), 9, 1, 2)
	}
	for _, n := range beyond(0, 60) {
		checkNotMoved(t, good, other, nil, n, 1, 2)
	}
	for _, of := range []int{1, 2, 99, 100} {
		for _, n := range beyond(0, of) {
			checkNotMoved(t, good, other, nil, 9, n, of)
			checkNotMoved(t, good, elem(1, -1), nil, 9, n, of)
		}
		checkAllMoved(t, good, other, nil, 60, of, of)
		checkAllMoved(t, good, other, nil, 0, 0, of)
	}
	for _, n := range append(beyond(0, 100), 0) {
		checkNotMoved(t, good, other, nil, 9, 0, n)
		checkNotMoved(t, good, elem(1, -1), nil, 9, 0, n)
	}
}

// eachMove calls with random trees that have much in common, rules, a width and steps.
func eachMove(many int, visit func(r *rand.Rand, a, b impl.Tree, rules []impl.Rule, wide, of int)) {
	eachTwoTrees(many, func(r *rand.Rand, a, b impl.Tree) {
		visit(r, a, b, boxRules(r, a), r.IntN(61), 1+r.IntN(100))
	})
}

func TestMovingChangesAndSharesNothing(t *testing.T) {
	eachMove(200, func(r *rand.Rand, a, b impl.Tree, rules []impl.Rule, wide, of int) {
		textA, textB, copied := wantText(a), wantText(b), slices.Clone(rules)
		checkUnshared(t, impl.BoxesMoved(a, b, rules, wide, r.IntN(of+1), of), a, b, rules)
		way := waysOf(a)[r.IntN(countOf(a))]
		before := slices.Clone(way)
		impl.PartNumber(a, way)
		if wantText(a) != textA || wantText(b) != textB || !slices.Equal(rules, copied) || !slices.Equal(way, before) {
			t.Errorf("%s, %s, %v or %v is another one now", textA, textB, copied, before)
		}
	})
}

func TestBoxesMovedOfRandomTrees(t *testing.T) {
	eachMove(1500, func(r *rand.Rand, a, b impl.Tree, rules []impl.Rule, wide, of int) {
		checkAllMoved(t, a, b, rules, wide, r.IntN(of+1), of)
	})
}

func TestPromise83TheFirstStepIsTheFirstBoxAndTheLastOneTheLast(t *testing.T) {
	r := rand.New(rand.NewPCG(26, 20))
	check := func(a, b impl.Box, of int) {
		checkBetween(t, a, b, 0, of, a)
		checkBetween(t, a, b, of, of, b)
		checkBetween(t, a, a, r.IntN(of+1), of, a)
		m := impl.BoxBetween(a, b, r.IntN(of+1), of)
		for _, n := range [][3]int{{a.Left, m.Left, b.Left}, {a.Top, m.Top, b.Top}, {a.Wide, m.Wide, b.Wide}, {a.High, m.High, b.High}} {
			if n[1] < min(n[0], n[2]) || n[1] > max(n[0], n[2]) {
				t.Errorf("from %v to %v, the box is %v", a, b, m)
			}
		}
	}
	for range 3000 {
		check(randomBox(r, 100000, 100000), randomBox(r, 100000, 100000), 1+r.IntN(100))
		check(randomBox(r, 9, 9), randomBox(r, 9, 9), 1+r.IntN(100))
	}
	for _, a := range endBoxes() {
		for _, b := range endBoxes() {
			check(a, b, 1)
			check(a, b, 100)
		}
	}
}

func TestPromise84ThePartWithTheNumberIsAtTheWay(t *testing.T) {
	eachRandomTree(func(_ *rand.Rand, tree impl.Tree) {
		for n, want := range waysOf(tree) {
			number := impl.PartNumber(tree, want)
			way, ok := impl.PartWay(tree, number)
			if !ok || number != n || !slices.Equal(way, want) {
				t.Errorf("PartNumber(%s, %v) = %d, and PartWay of it %v, %v", brief(tree), want, number, way, ok)
			}
		}
	})
}

func TestPromise85InTheEndAllBoxesAreTheNewOnes(t *testing.T) {
	eachMove(1500, func(r *rand.Rand, a, b impl.Tree, rules []impl.Rule, wide, of int) {
		last, stays := impl.BoxesMoved(a, b, rules, wide, of, of), impl.BoxesMoved(a, a, rules, wide, r.IntN(of+1), of)
		if !slices.Equal(last, impl.BoxesOf(b, rules, wide)) || !slices.Equal(stays, impl.BoxesOf(a, rules, wide)) {
			t.Errorf("BoxesMoved(%s, %s, %v, %d, %d, %d) = %v, and to itself %v", brief(a), brief(b), rules, wide, of, of, last, stays)
		}
	})
}
