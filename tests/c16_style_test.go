package tests

import (
	"math"
	"math/rand/v2"
	"slices"
	"testing"

	"loop.example/drawnanew/impl"
)

// plain is a rule that asks for nothing.
func plain(look, give int) impl.Rule {
	return impl.Rule{Tag: -1, Above: -1, Name: -1, Look: look, Give: give}
}

func ofTag(tag int, x impl.Rule) impl.Rule {
	x.Tag = tag
	return x
}

func inside(above int, x impl.Rule) impl.Rule {
	x.Above = above
	return x
}

func ofProp(name int, v impl.Value, x impl.Rule) impl.Rule {
	x.Name, x.Val = name, v
	return x
}

func wantWeight(x impl.Rule) int {
	return map[bool]int{true: 1}[x.Tag >= 0] + map[bool]int{true: 1}[x.Above >= 0] + map[bool]int{true: 10}[x.Name >= 0]
}

func wantMeets(x impl.Rule, t impl.Tree, around []impl.Tree) bool {
	isAbove := func(o impl.Tree) bool { return o.Tag == x.Above }
	isAsked := func(p impl.Prop) bool { return p.Name == x.Name && p.Val == x.Val }
	return t.Tag >= 0 && (x.Tag < 0 || t.Tag == x.Tag) && (x.Above < 0 || slices.ContainsFunc(around, isAbove)) && (x.Name < 0 || slices.ContainsFunc(t.Props, isAsked))
}

// wantLooks asks all rules for each look of each part, around which are the parts that it is in.
func wantLooks(t impl.Tree, rules []impl.Rule, around []impl.Tree, mark int) [][]int {
	own := []int{0, 0, 0, 0, mark}
	for look := range 5 {
		best := -1
		for _, x := range rules {
			if x.Look == look && wantMeets(x, t, around) && wantWeight(x) >= best {
				best = wantWeight(x)
				own[look] = x.Give
			}
		}
	}
	list := [][]int{own}
	for _, kid := range t.Kids {
		list = append(list, wantLooks(kid, rules, append(slices.Clone(around), t), own[4])...)
	}
	return list
}

func randomRule(r *rand.Rand) impl.Rule {
	x := plain(r.IntN(5), r.IntN(61))
	if r.IntN(2) == 0 {
		x.Tag = r.IntN(5)
	}
	if r.IntN(3) == 0 {
		x.Above = r.IntN(5)
	}
	if r.IntN(3) == 0 {
		x = ofProp(r.IntN(4), randomValue(r), x)
	}
	return x
}

// someRules are random rules for a tree, many of which ask for a prop that it has.
func someRules(r *rand.Rand, t impl.Tree) []impl.Rule {
	var list []impl.Rule
	ways := waysOf(t)
	for range r.IntN(13) {
		x := randomRule(r)
		if part := partAt(t, ways[r.IntN(len(ways))]); len(part.Props) > 0 && r.IntN(2) == 0 {
			p := part.Props[r.IntN(len(part.Props))]
			x = ofProp(p.Name, p.Val, x)
		}
		if r.IntN(2) == 0 {
			x.Look = r.IntN(2) * 4
		}
		list = append(list, x)
	}
	return list
}

func eachLooks(many int, visit func(r *rand.Rand, t impl.Tree, rules []impl.Rule)) {
	r := rand.New(rand.NewPCG(16, 20))
	for i := range many {
		parts := 1 + r.IntN(16)
		if i%10 == 0 {
			parts = 1 + r.IntN(200)
		}
		t := randomTree(r, parts, 24)
		visit(r, t, someRules(r, t))
	}
}

// invalidRules are wrong in one thing each.
func invalidRules() []impl.Rule {
	var list []impl.Rule
	for _, n := range []int{math.MinInt, -3, -2, 5, 6, 1 << 32, math.MaxInt} {
		list = append(list, ofTag(n, plain(0, 0)), inside(n, plain(0, 0)))
	}
	for _, n := range []int{math.MinInt, -2, 4, 5, 1 << 32, math.MaxInt} {
		list = append(list, ofProp(n, none(), plain(0, 0)), ofProp(n, num(1), plain(0, 0)))
	}
	for _, n := range []int{math.MinInt, -2, -1, 5, 6, 1 << 32, math.MaxInt} {
		list = append(list, plain(n, 0))
	}
	for _, n := range []int{math.MinInt, -2, -1, 61, 62, 1 << 32, math.MaxInt} {
		list = append(list, plain(0, n))
	}
	for _, v := range []impl.Value{num(0), num(1), text(""), text("a"), {Num: 1}, {Text: "a"}} {
		list = append(list, ofProp(-1, v, plain(0, 0)))
	}
	for _, v := range invalidValues() {
		list = append(list, ofProp(2, v, plain(0, 0)), ofProp(-1, v, plain(0, 0)))
	}
	return list
}

func checkRules(t *testing.T, list []impl.Rule, want bool) {
	t.Helper()
	if impl.RulesOk(list) != want {
		t.Errorf("RulesOk(%v) is %v", list, !want)
	}
	if looks := impl.LooksAll(word("a"), list); (len(looks) == 1) != want || !want && len(looks) > 0 {
		t.Errorf("LooksAll with %v = %v", list, looks)
	}
}

func checkWeight(t *testing.T, x impl.Rule, want int) {
	t.Helper()
	if n := impl.RuleWeight(x); n != want {
		t.Errorf("RuleWeight(%v) = %d, not %d", x, n, want)
	}
}

func checkLooks(t *testing.T, tree impl.Tree, rules []impl.Rule) {
	t.Helper()
	if looks, want := impl.LooksAll(tree, rules), wantLooks(tree, rules, nil, 0); !same(looks, want) {
		t.Errorf("LooksAll(%s, %v) = %v, not %v", brief(tree), rules, looks, want)
	}
}

// checkLook checks one look of all parts.
func checkLook(t *testing.T, s string, look int, rules []impl.Rule, want ...int) {
	t.Helper()
	var got []int
	for _, looks := range impl.LooksAll(read(s), rules) {
		got = append(got, looks[look])
	}
	if !slices.Equal(got, want) {
		t.Errorf("the look %d of %s with %v is %v, not %v", look, s, rules, got, want)
	}
	checkLooks(t, read(s), rules)
}

func TestLookConstants(t *testing.T) {
	got := []int{impl.MaxRules, impl.MaxLooks, impl.MaxGive, impl.AnyTag, impl.AnyName, impl.LookWide, impl.LookHigh, impl.LookPad, impl.LookAcross, impl.LookMark}
	if want := []int{12, 5, 60, -1, -1, 0, 1, 2, 3, 4}; !slices.Equal(got, want) {
		t.Errorf("the constants are %v, not %v", got, want)
	}
}

func TestRulesOk(t *testing.T) {
	for many := range 30 {
		checkRules(t, slices.Repeat([]impl.Rule{plain(0, 1)}, many), many <= 12)
	}
	for n := -4; n <= 8; n++ {
		checkRules(t, []impl.Rule{ofTag(n, plain(0, 0))}, -1 <= n && n <= 4)
		checkRules(t, []impl.Rule{inside(n, plain(0, 0))}, -1 <= n && n <= 4)
		checkRules(t, []impl.Rule{ofProp(n, none(), plain(0, 0))}, -1 <= n && n <= 3)
		checkRules(t, []impl.Rule{ofProp(n, num(5), plain(0, 0))}, 0 <= n && n <= 3)
		checkRules(t, []impl.Rule{plain(n, 0)}, 0 <= n && n <= 4)
	}
	for n := -3; n <= 70; n++ {
		checkRules(t, []impl.Rule{plain(4, n)}, 0 <= n && n <= 60)
	}
	for _, v := range validValues() {
		checkRules(t, []impl.Rule{ofProp(3, v, plain(0, 0))}, true)
		checkRules(t, []impl.Rule{ofProp(-1, v, plain(0, 0))}, v == none())
	}
	for _, x := range invalidRules() {
		checkRules(t, []impl.Rule{x}, false)
		checkRules(t, []impl.Rule{plain(0, 0), x}, false)
		checkRules(t, []impl.Rule{x, plain(0, 0), plain(0, 0)}, false)
		checkWeight(t, x, -1)
	}
}

func TestRuleWeight(t *testing.T) {
	for tag := -1; tag <= 4; tag++ {
		for above := -1; above <= 4; above++ {
			for name := -1; name <= 3; name++ {
				x := ofTag(tag, inside(above, ofProp(name, none(), plain(2, 30))))
				checkWeight(t, x, wantWeight(x))
			}
		}
	}
	checkWeight(t, plain(0, 60), 0)
	checkWeight(t, ofTag(0, plain(0, 60)), 1)
	checkWeight(t, inside(0, plain(0, 60)), 1)
	checkWeight(t, ofProp(0, text("a"), plain(0, 60)), 10)
	checkWeight(t, ofTag(4, inside(4, ofProp(3, num(1), plain(4, 0)))), 12)
}

func TestLooksOfWhatIsAskedFor(t *testing.T) {
	const s = "(t0 p0=1 (t1 p0=1 p1='a' (t2 'x' (t1))) (t2 p0=2) 'y')"
	rules := func(list ...impl.Rule) []impl.Rule { return list }
	for look := range 4 {
		checkLook(t, s, look, nil, 0, 0, 0, 0, 0, 0, 0)
		checkLook(t, s, look, rules(plain(look, 7)), 7, 7, 7, 0, 7, 7, 0)
		checkLook(t, s, look, rules(ofTag(1, plain(look, 7))), 0, 7, 0, 0, 7, 0, 0)
		checkLook(t, s, look, rules(ofTag(4, plain(look, 7))), 0, 0, 0, 0, 0, 0, 0)
		checkLook(t, s, look, rules(plain((look+1)%4, 7)), 0, 0, 0, 0, 0, 0, 0)
		// Above is an element around, at any depth, and not the element itself.
		checkLook(t, s, look, rules(inside(0, plain(look, 7))), 0, 7, 7, 0, 7, 7, 0)
		checkLook(t, s, look, rules(inside(1, plain(look, 7))), 0, 0, 7, 0, 7, 0, 0)
		checkLook(t, s, look, rules(inside(2, plain(look, 7))), 0, 0, 0, 0, 7, 0, 0)
		checkLook(t, s, look, rules(ofTag(1, inside(1, plain(look, 7)))), 0, 0, 0, 0, 7, 0, 0)
		checkLook(t, s, look, rules(inside(4, plain(look, 7))), 0, 0, 0, 0, 0, 0, 0)
		// The prop must be there, with this value.
		checkLook(t, s, look, rules(ofProp(0, num(1), plain(look, 7))), 7, 7, 0, 0, 0, 0, 0)
		checkLook(t, s, look, rules(ofProp(0, num(2), plain(look, 7))), 0, 0, 0, 0, 0, 7, 0)
		checkLook(t, s, look, rules(ofProp(1, text("a"), plain(look, 7))), 0, 7, 0, 0, 0, 0, 0)
		checkLook(t, s, look, rules(ofProp(0, text("1"), plain(look, 7))), 0, 0, 0, 0, 0, 0, 0)
		checkLook(t, s, look, rules(ofProp(2, none(), plain(look, 7))), 0, 0, 0, 0, 0, 0, 0)
		checkLook(t, s, look, rules(ofTag(2, inside(0, ofProp(0, num(2), plain(look, 7))))), 0, 0, 0, 0, 0, 7, 0)
		checkLook(t, s, look, rules(ofTag(2, inside(1, ofProp(0, num(2), plain(look, 7))))), 0, 0, 0, 0, 0, 0, 0)
	}
	checkLook(t, "(t0 p1=- (t0))", 0, rules(ofProp(1, none(), plain(0, 7))), 7, 0)
	// Above is no element beside it, nor one in it.
	checkLook(t, "(t0 (t1) (t2 (t3)) (t1))", 0, rules(inside(1, plain(0, 7)), inside(3, plain(0, 8))), 0, 0, 0, 0, 0)
	checkLook(t, "'a'", 0, rules(plain(0, 7)), 0)
}

func TestLooksByWeight(t *testing.T) {
	rules := func(list ...impl.Rule) []impl.Rule { return list }
	light, tag, above, both, name := plain(1, 1), ofTag(1, plain(1, 2)), inside(0, plain(1, 3)), ofTag(1, inside(0, plain(1, 4))), ofProp(0, num(1), plain(1, 5))
	const s = "(t0 (t1 p0=1))"
	checkLook(t, s, 1, rules(light, tag), 1, 2)
	checkLook(t, s, 1, rules(tag, light), 1, 2)
	checkLook(t, s, 1, rules(tag, above), 0, 3)
	checkLook(t, s, 1, rules(above, tag), 0, 2)
	checkLook(t, s, 1, rules(above, both, tag), 0, 4)
	checkLook(t, s, 1, rules(both, name, above, tag, light), 1, 5)
	checkLook(t, s, 1, rules(name, both), 0, 5)
	// Of one weight, the last one.
	for give := 2; give < 12; give++ {
		var list []impl.Rule
		for n := range give {
			list = append(list, plain(1, n+1))
		}
		checkLook(t, s, 1, list, give, give)
	}
	// A heavier one that gives 0 gives 0, and one that does not meet gives nothing.
	checkLook(t, s, 1, rules(light, ofTag(1, plain(1, 0))), 1, 0)
	checkLook(t, s, 1, rules(light, ofProp(0, num(2), plain(1, 9))), 1, 1)
	// Other looks are given by other rules.
	checkLook(t, s, 1, rules(light, ofTag(1, plain(2, 9))), 1, 1)
	checkLook(t, s, 2, rules(light, ofTag(1, plain(2, 9))), 0, 9)
}

func TestLookMarkIsHandedOn(t *testing.T) {
	rules := func(list ...impl.Rule) []impl.Rule { return list }
	const s = "(t0 'a' (t1 'b' (t2 'c' (t3 'd')) 'e') (t4))"
	checkLook(t, s, 4, nil, 0, 0, 0, 0, 0, 0, 0, 0, 0, 0)
	checkLook(t, s, 4, rules(ofTag(0, plain(4, 3))), 3, 3, 3, 3, 3, 3, 3, 3, 3, 3)
	checkLook(t, s, 4, rules(ofTag(1, plain(4, 3))), 0, 0, 3, 3, 3, 3, 3, 3, 3, 0)
	checkLook(t, s, 4, rules(ofTag(0, plain(4, 3)), ofTag(2, plain(4, 5))), 3, 3, 3, 3, 5, 5, 5, 5, 3, 3)
	// One that is given as 0 is given.
	checkLook(t, s, 4, rules(ofTag(0, plain(4, 3)), ofTag(2, plain(4, 0))), 3, 3, 3, 3, 0, 0, 0, 0, 3, 3)
	checkLook(t, s, 4, rules(plain(4, 60), ofTag(2, plain(4, 1))), 60, 60, 60, 60, 1, 1, 60, 60, 60, 60)
	checkLook(t, "'a'", 4, rules(plain(4, 9)), 0)
	// Other looks are not handed on.
	for look := range 4 {
		checkLook(t, s, look, rules(ofTag(1, plain(look, 3))), 0, 0, 3, 0, 0, 0, 0, 0, 0, 0)
	}
}

func TestLooksOfWhatIsNotValid(t *testing.T) {
	for _, bad := range invalidTrees() {
		for _, rules := range [][]impl.Rule{nil, {plain(4, 1)}} {
			if looks := impl.LooksAll(bad, rules); len(looks) > 0 {
				t.Errorf("LooksAll of what is no tree = %v", looks)
			}
		}
	}
	for _, x := range invalidRules() {
		for _, tree := range []impl.Tree{fullTree(), elem(0, -1), word("")} {
			if looks := impl.LooksAll(tree, []impl.Rule{plain(4, 1), x}); len(looks) > 0 {
				t.Errorf("LooksAll with %v = %v", x, looks)
			}
		}
	}
	for many := 10; many < 16; many++ {
		if looks := impl.LooksAll(fullTree(), slices.Repeat([]impl.Rule{plain(4, 1)}, many)); (len(looks) > 0) != (many <= 12) {
			t.Errorf("LooksAll with %d rules = %v", many, looks)
		}
	}
	checkLooks(t, flat(200), []impl.Rule{plain(4, 1), plain(0, 2)})
	checkLooks(t, nested(24, word("a")), []impl.Rule{inside(0, plain(4, 1))})
}

func TestLooksChangeAndShareNothing(t *testing.T) {
	eachLooks(300, func(_ *rand.Rand, tree impl.Tree, rules []impl.Rule) {
		before, copied := wantText(tree), slices.Clone(rules)
		looks := impl.LooksAll(tree, rules)
		impl.RulesOk(rules)
		checkUnshared(t, looks, tree, rules)
		if wantText(tree) != before || !slices.Equal(rules, copied) {
			t.Errorf("%s or %v is another one now", before, copied)
		}
	})
}

func TestLooksOfRandomTrees(t *testing.T) {
	eachLooks(4000, func(_ *rand.Rand, tree impl.Tree, rules []impl.Rule) { checkLooks(t, tree, rules) })
	eachTwoTrees(500, func(r *rand.Rand, a, b impl.Tree) {
		rules := someRules(r, a)
		checkLooks(t, a, rules)
		checkLooks(t, b, rules)
	})
}

func TestPromise55RulesInTwoPartsAreValid(t *testing.T) {
	eachLooks(1000, func(_ *rand.Rand, _ impl.Tree, rules []impl.Rule) {
		for at := range len(rules) + 1 {
			checkRules(t, rules[:at], true)
			checkRules(t, rules[at:], true)
		}
	})
}

func TestPromise56ARuleThatAsksForLessWeighsLess(t *testing.T) {
	r := rand.New(rand.NewPCG(16, 21))
	for range 3000 {
		x := randomRule(r)
		y := ofProp(-1, none(), x)
		z := ofTag(-1, y)
		checkWeight(t, x, wantWeight(x))
		if (impl.RuleWeight(y) < impl.RuleWeight(x)) != (x.Name >= 0) || (impl.RuleWeight(z) < impl.RuleWeight(y)) != (x.Tag >= 0) {
			t.Errorf("%v, %v and %v weigh %d, %d and %d", x, y, z, impl.RuleWeight(x), impl.RuleWeight(y), impl.RuleWeight(z))
		}
		if impl.RuleWeight(z) != truth(x.Above >= 0).Num || impl.RuleWeight(y) > 2 || x.Name >= 0 && impl.RuleWeight(x) < 10 {
			t.Errorf("%v weighs %d", z, impl.RuleWeight(z))
		}
	}
}

func TestPromise57EachPartHasItsLooks(t *testing.T) {
	some := 0
	eachLooks(2000, func(_ *rand.Rand, tree impl.Tree, rules []impl.Rule) {
		looks, bare := impl.LooksAll(tree, rules), impl.LooksAll(tree, nil)
		if len(looks) != impl.TreeSize(tree) || len(bare) != impl.TreeSize(tree) {
			t.Errorf("LooksAll(%s, %v) has %d looks, and %d without rules", brief(tree), rules, len(looks), len(bare))
		}
		for i := range looks {
			if len(looks[i]) != 5 || slices.Min(looks[i]) < 0 || slices.Max(looks[i]) > 60 || !slices.Equal(bare[i], make([]int, 5)) {
				t.Errorf("the looks of a part of %s are %v, and %v without rules", brief(tree), looks[i], bare[i])
			}
			some += slices.Max(looks[i])
		}
	})
	if some == 0 {
		t.Error("no part has a look")
	}
}
