package tests

import (
	"math"
	"math/rand/v2"
	"slices"
	"testing"

	"loop.example/drawnanew/impl"
)

func one() []impl.Step { return steps(con(num(1))) }

func ones(many int) [][]impl.Step {
	list := make([][]impl.Step, many)
	for i := range list {
		list[i] = one()
	}
	return list
}

func textOf(f []impl.Step) impl.Tmpl {
	return impl.Tmpl{Kind: impl.TmplText, Args: [][]impl.Step{f}}
}

func elemOf(tag int, kids ...impl.Tmpl) impl.Tmpl {
	return impl.Tmpl{Kind: impl.TmplElem, Tag: tag, Kids: kids}
}

func ifOf(f []impl.Step, kids ...impl.Tmpl) impl.Tmpl {
	return impl.Tmpl{Kind: impl.TmplIf, Args: [][]impl.Step{f}, Kids: kids}
}

func eachOf(f []impl.Step, key []impl.Step, kids ...impl.Tmpl) impl.Tmpl {
	return impl.Tmpl{Kind: impl.TmplEach, Args: [][]impl.Step{f}, Key: key, Kids: kids}
}

func callOf(comp int, args ...[]impl.Step) impl.Tmpl {
	return impl.Tmpl{Kind: impl.TmplCall, Tag: comp, Args: args}
}

func giveOf(gift int, f []impl.Step, kids ...impl.Tmpl) impl.Tmpl {
	return impl.Tmpl{Kind: impl.TmplGive, Tag: gift, Args: [][]impl.Step{f}, Kids: kids}
}

// texts returns so many templates of one part each.
func texts(many int) []impl.Tmpl {
	list := make([]impl.Tmpl, many)
	for i := range list {
		list[i] = textOf(one())
	}
	return list
}

// progOf returns a program whose root has a body and nothing else; its second component has two props, and its third one has none.
func progOf(body impl.Tmpl) []impl.Comp {
	return []impl.Comp{{Body: body}, {Props: 2, Body: textOf(one())}, {Body: textOf(one())}}
}

func fullActs() [][]impl.Set {
	sets := []impl.Set{{State: 2, Form: steps(state(0), use(1), do(impl.OpAdd))}, {State: 0, Form: steps(state(2))}, {State: 1, Form: one()}}
	return [][]impl.Set{slices.Clone(sets), slices.Clone(sets), slices.Clone(sets)}
}

func fullStates() []impl.Value { return []impl.Value{none(), num(-1000), text("abcdefghijkl")} }

// fullElem has as much as an element can have, where there are three props and states.
func fullElem(kids ...impl.Tmpl) impl.Tmpl {
	return impl.Tmpl{
		Kind:  impl.TmplElem,
		Tag:   4,
		Names: []int{0, 1, 2, 3},
		Args:  [][]impl.Step{steps(prop(2)), steps(state(2)), steps(use(1)), sums(9)},
		Ons:   []impl.On{{Event: 0, Act: 2}, {Event: 1, Act: 0}, {Event: 2, Act: 2}},
		Kids:  kids,
	}
}

// fullProg has as many components, props, states, acts and sets as there can be, each kind of template, and one at each depth; the template at 1, 0 of its second component is the element.
func fullProg() []impl.Comp {
	each := eachOf(steps(state(0)), steps(turn(0)), eachOf(steps(turn(0)), nil, callOf(2, steps(turn(1)), steps(turn(0)), steps(prop(2)))))
	pick := ifOf(steps(state(1)), textOf(steps(prop(0))), textOf(one()))
	give := giveOf(1, steps(prop(1)), textOf(steps(use(1))), callOf(3))
	return []impl.Comp{
		{States: fullStates(), Acts: fullActs(), Body: callOf(1, one(), steps(state(2)), one())},
		{Props: 3, States: fullStates(), Acts: fullActs(), Body: fullElem(textOf(steps(prop(2))), each, pick, give)},
		{Props: 3, States: fullStates(), Acts: fullActs(), Body: fullElem()},
		{Body: elemOf(0)},
	}
}

// checkProg checks ProgOk, and that a program that is not valid has no size and nothing below it.
func checkProg(t *testing.T, what string, p []impl.Comp, want bool) {
	t.Helper()
	if impl.ProgOk(p) != want {
		t.Errorf("%s: ProgOk is %v", what, !want)
	}
	if (impl.ProgSize(p) >= 1) != want || !want && impl.ProgSize(p) != -1 {
		t.Errorf("%s: ProgSize is %d", what, impl.ProgSize(p))
	}
	for at := range p {
		if list := impl.ProgBelow(p, at); !want && len(list) > 0 {
			t.Errorf("%s: ProgBelow of %d is %v", what, at, list)
		}
	}
}

func checkBody(t *testing.T, what string, body impl.Tmpl, want bool) {
	t.Helper()
	checkProg(t, what, progOf(body), want)
}

// wantSize counts the parts below a template anew for each call of a component, unlike in the program.
func wantSize(p []impl.Comp, t impl.Tmpl) int {
	many := 1
	for _, kid := range t.Kids {
		many += wantSize(p, kid)
	}
	if t.Kind == impl.TmplEach {
		many += 3 * wantSize(p, t.Kids[0])
	}
	if t.Kind == impl.TmplCall {
		many += wantSize(p, p[t.Tag].Body)
	}
	return many
}

// progMaker makes random valid templates of a component; those of a lively one draw more.
type progMaker struct {
	r      *rand.Rand
	p      []impl.Comp
	at     int
	lively bool
}

func (m progMaker) form(turns int) []impl.Step {
	c := m.p[m.at]
	if m.lively {
		return livelyForm(m.r, c.Props, len(c.States), turns)
	}
	return randomForm(m.r, 1+m.r.IntN(9), c.Props, len(c.States), turns)
}

func (m progMaker) forms(many, turns int) [][]impl.Step {
	var list [][]impl.Step
	for range many {
		list = append(list, m.form(turns))
	}
	return list
}

func (m progMaker) kids(most, depth, turns int) []impl.Tmpl {
	var list []impl.Tmpl
	if depth == 4 {
		return nil
	}
	for range m.r.IntN(most + 1) {
		list = append(list, m.tmpl(depth+1, turns))
	}
	return list
}

func (m progMaker) elem(depth, turns int) impl.Tmpl {
	e := elemOf(m.r.IntN(5), m.kids(4, depth, turns)...)
	for name := range 4 {
		if m.r.IntN(2) == 0 {
			e.Names = append(e.Names, name)
		}
	}
	e.Args = m.forms(len(e.Names), turns)
	for event := range 3 {
		if acts := len(m.p[m.at].Acts); acts > 0 && m.r.IntN(2) == 0 {
			e.Ons = append(e.Ons, impl.On{Event: event, Act: m.r.IntN(acts)})
		}
	}
	return e
}

func (m progMaker) tmpl(depth, turns int) impl.Tmpl {
	switch kind := m.r.IntN(7); {
	case kind == 0 && depth < 4:
		return ifOf(m.form(turns), append(m.kids(1, depth, turns), m.tmpl(depth+1, turns))...)
	case kind == 1 && depth < 4:
		t := eachOf(m.form(turns), nil, m.tmpl(depth+1, turns+1))
		if m.r.IntN(2) == 0 {
			t.Key = m.form(turns + 1)
		}
		return t
	case kind <= 3 && m.at+1 < len(m.p):
		comp := m.at + 1 + m.r.IntN(len(m.p)-m.at-1)
		return callOf(comp, m.forms(m.p[comp].Props, turns)...)
	case kind == 4:
		return giveOf(m.r.IntN(2), m.form(turns), m.kids(4, depth, turns)...)
	case kind == 5:
		return textOf(m.form(turns))
	}
	return m.elem(depth, turns)
}

func (m progMaker) acts() [][]impl.Set {
	var list [][]impl.Set
	states := len(m.p[m.at].States)
	for range m.r.IntN(4) {
		var act []impl.Set
		for range m.r.IntN(4) {
			if states > 0 {
				act = append(act, impl.Set{State: m.r.IntN(states), Form: randomForm(m.r, 1+m.r.IntN(9), 0, states, 0)})
			}
		}
		list = append(list, act)
	}
	return list
}

// randomProg returns a random valid program.
func randomProg(r *rand.Rand) []impl.Comp {
	p := make([]impl.Comp, 1+r.IntN(4))
	for at := range p {
		e := randomEnv(r, 0, r.IntN(4), 0)
		p[at] = impl.Comp{Props: r.IntN(4), States: e.States}
	}
	p[0].Props = 0
	for at := range p {
		m := progMaker{r: r, p: p, at: at}
		p[at].Acts = m.acts()
		p[at].Body = m.tmpl(1, 0)
	}
	if wantSize(p, p[0].Body) > 199 {
		return randomProg(r)
	}
	return p
}

func eachRandomProg(visit func(r *rand.Rand, p []impl.Comp)) {
	r := rand.New(rand.NewPCG(3, 10))
	for range 3000 {
		visit(r, randomProg(r))
	}
}

func TestProgConstants(t *testing.T) {
	got := []int{impl.MaxComps, impl.MaxKids, impl.MaxTags, impl.MaxNames, impl.MaxEvents, impl.MaxActs, impl.MaxNodes, impl.TmplText, impl.TmplElem, impl.TmplIf, impl.TmplEach, impl.TmplCall, impl.TmplGive}
	if want := []int{4, 4, 5, 4, 3, 3, 200, 0, 1, 2, 3, 4, 5}; !slices.Equal(got, want) {
		t.Errorf("the constants are %v, not %v", got, want)
	}
}

func TestProgOkOfNumbersOfComponents(t *testing.T) {
	checkProg(t, "nil", nil, false)
	for many := range 8 {
		p := make([]impl.Comp, many)
		for at := range p {
			p[at].Body = textOf(one())
		}
		checkProg(t, "programs of so many components", p, 1 <= many && many <= 4)
	}
	checkProg(t, "the full program", fullProg(), true)
	checkProg(t, "one component more", append(fullProg(), impl.Comp{Body: elemOf(0)}), false)
	checkProg(t, "the zero component", []impl.Comp{{}}, false)
}

func TestProgOkOfProps(t *testing.T) {
	for _, n := range []int{math.MinInt, -1, 0, 1, 2, 3, 4, 5, math.MaxInt} {
		checkProg(t, "props of the root", []impl.Comp{{Props: n, Body: textOf(one())}}, n == 0)
		checkProg(t, "props of a component", []impl.Comp{{Body: textOf(one())}, {Props: n, Body: textOf(one())}}, 0 <= n && n <= 3)
		checkProg(t, "props of a component without formulas", []impl.Comp{{Body: textOf(one())}, {Props: n, Body: elemOf(0)}}, 0 <= n && n <= 3)
		for a := range 4 {
			p := []impl.Comp{{Body: textOf(one())}, {Props: n, Body: textOf(steps(prop(a)))}}
			checkProg(t, "a prop of a component", p, a < n && n <= 3)
		}
	}
}

func TestProgOkOfStates(t *testing.T) {
	for many := range 7 {
		states := make([]impl.Value, many)
		checkProg(t, "states of the root", []impl.Comp{{States: states, Body: textOf(one())}}, many <= 3)
		checkProg(t, "states of a component without formulas", []impl.Comp{{Body: textOf(one())}, {States: states, Body: elemOf(0)}}, many <= 3)
		for a := range 4 {
			p := []impl.Comp{{Body: textOf(one())}, {States: states, Body: textOf(steps(state(a)))}}
			checkProg(t, "a state of a component", p, a < many && many <= 3)
		}
	}
	for _, v := range validValues() {
		checkProg(t, "a valid state", []impl.Comp{{States: []impl.Value{num(1), num(1), v}, Body: textOf(one())}}, true)
	}
	for _, v := range invalidValues() {
		checkProg(t, "a first state that is not valid", []impl.Comp{{States: []impl.Value{v, num(1)}, Body: textOf(one())}}, false)
		checkProg(t, "a last state that is not valid", []impl.Comp{{Body: textOf(one())}, {States: []impl.Value{num(1), num(1), v}, Body: textOf(one())}}, false)
	}
}

// withActs returns a program whose last component has so many states, and acts.
func withActs(states int, acts ...[]impl.Set) []impl.Comp {
	return []impl.Comp{{Body: textOf(one())}, {Props: 3, States: make([]impl.Value, states), Acts: acts, Body: textOf(one())}}
}

func TestProgOkOfActs(t *testing.T) {
	for many := range 7 {
		checkProg(t, "acts without sets", withActs(0, make([][]impl.Set, many)...), many <= 3)
		var act []impl.Set
		for range many {
			act = append(act, impl.Set{Form: one()})
		}
		checkProg(t, "an act of sets of one state", withActs(1, act), many <= 3)
		checkProg(t, "a last act of sets of one state", withActs(1, nil, nil, act), many <= 3)
	}
}

func TestProgOkOfSets(t *testing.T) {
	set := func(at int, f ...impl.Step) []impl.Set { return []impl.Set{{State: at, Form: f}} }
	for states := range 4 {
		for _, at := range []int{math.MinInt, -1, 0, 1, 2, 3, math.MaxInt} {
			checkProg(t, "a set of a state", withActs(states, set(at, con(num(1)))), 0 <= at && at < states)
			checkProg(t, "a last set of a state", withActs(states, nil, append(set(0, con(num(1))), set(at, con(num(1)))...)), 0 <= at && at < states)
			if states > 0 {
				checkProg(t, "a set by a state", withActs(states, set(0, state(at))), 0 <= at && at < states)
			}
		}
	}
	checkProg(t, "a set by a gift", withActs(1, set(0, use(1))), true)
	checkProg(t, "a set by a prop", withActs(1, set(0, prop(0))), false)
	checkProg(t, "a set by a turn", withActs(1, set(0, turn(0))), false)
	checkProg(t, "a set by no steps", withActs(1, set(0)), false)
	checkProg(t, "a set by two values", withActs(1, set(0, con(num(1)), con(num(1)))), false)
	checkProg(t, "a last set by no steps", withActs(3, nil, nil, append(set(2, con(num(1))), set(1)...)), false)
	checkProg(t, "a set by ten steps and more", withActs(1, set(0, sums(11)...)), false)
}

// needs tells what a kind of template may have: the least and the most.
type needs struct {
	kind       int
	tags       [2]int
	args, kids [2]int
}

func allNeeds() []needs {
	return []needs{
		{kind: impl.TmplText, args: [2]int{1, 1}},
		{kind: impl.TmplElem, tags: [2]int{0, 4}, kids: [2]int{0, 4}},
		{kind: impl.TmplIf, args: [2]int{1, 1}, kids: [2]int{1, 2}},
		{kind: impl.TmplEach, args: [2]int{1, 1}, kids: [2]int{1, 1}},
		{kind: impl.TmplCall, tags: [2]int{2, 2}},
		{kind: impl.TmplGive, tags: [2]int{0, 1}, args: [2]int{1, 1}, kids: [2]int{0, 4}},
	}
}

// least returns the template of the kind with the least that it needs.
func (n needs) least() impl.Tmpl {
	return impl.Tmpl{Kind: n.kind, Tag: n.tags[0], Args: ones(n.args[0]), Kids: texts(n.kids[0])}
}

func within(n int, ends [2]int) bool { return ends[0] <= n && n <= ends[1] }

func TestProgOkOfNumbersOfArgsAndKids(t *testing.T) {
	for _, n := range allNeeds() {
		checkBody(t, "the least of a kind", n.least(), true)
		for many := range 8 {
			b := n.least()
			b.Args = ones(many)
			checkBody(t, "so many Args", b, within(many, n.args))
			b = n.least()
			b.Kids = texts(many)
			checkBody(t, "so many Kids", b, within(many, n.kids))
		}
	}
}

func TestProgOkOfTags(t *testing.T) {
	for _, n := range allNeeds() {
		for _, tag := range []int{math.MinInt, -2, -1, 0, 1, 2, 3, 4, 5, 6, 1 << 32, math.MaxInt} {
			b := n.least()
			b.Tag = tag
			if n.kind == impl.TmplCall && tag == 1 {
				b.Args = ones(2)
				checkBody(t, "a call with two props", b, true)
				continue
			}
			checkBody(t, "a Tag", b, within(tag, n.tags))
		}
	}
}

func TestProgOkOfWhatIsNotNeeded(t *testing.T) {
	for _, n := range allNeeds() {
		p := progOf(n.least())
		p[0].Acts = [][]impl.Set{nil}
		checkProg(t, "the least of a kind with an act", p, true)
		p[0].Body.Names = []int{0}
		checkProg(t, "a Name", p, false)
		if n.kind == impl.TmplElem {
			p[0].Body.Args = ones(1)
			checkProg(t, "a Name with an Arg", p, true)
		}
		p[0].Body = n.least()
		p[0].Body.Key = one()
		checkProg(t, "a Key", p, n.kind == impl.TmplEach)
		p[0].Body.Key = steps(turn(0))
		checkProg(t, "a Key by a turn", p, n.kind == impl.TmplEach)
		p[0].Body = n.least()
		p[0].Body.Ons = []impl.On{{}}
		checkProg(t, "an On", p, n.kind == impl.TmplElem)
		b := n.least()
		b.Names, b.Key, b.Ons = []int{}, []impl.Step{}, []impl.On{}
		checkBody(t, "empty slices of what is not needed", b, true)
	}
}

func TestProgOkOfOtherKinds(t *testing.T) {
	for _, kind := range []int{math.MinInt, -1, 6, 7, 1 << 32, math.MaxInt} {
		for _, n := range allNeeds() {
			b := n.least()
			b.Kind = kind
			checkBody(t, "another kind", b, false)
			checkBody(t, "another kind in an element", elemOf(0, textOf(one()), b), false)
		}
	}
}

func TestProgOkOfNames(t *testing.T) {
	for _, names := range [][]int{{}, {0}, {3}, {0, 1}, {0, 3}, {1, 2, 3}, {0, 1, 2, 3}} {
		for args := range 6 {
			b := impl.Tmpl{Kind: impl.TmplElem, Names: names, Args: ones(args)}
			checkBody(t, "Names with Args", b, args == len(names))
		}
	}
	for _, names := range [][]int{{-1}, {4}, {0, 0}, {3, 3}, {1, 0}, {0, 2, 1}, {0, 1, 4}, {-1, 0}, {0, 1, 2, 3, 3}, {0, 1, 2, 3, 4}, {math.MinInt}, {math.MaxInt}, {1 << 32}} {
		b := impl.Tmpl{Kind: impl.TmplElem, Names: names, Args: ones(len(names))}
		checkBody(t, "Names that are not valid", b, false)
	}
}

func TestProgOkOfOns(t *testing.T) {
	check := func(acts int, want bool, ons ...impl.On) {
		t.Helper()
		p := progOf(impl.Tmpl{Kind: impl.TmplElem, Ons: ons})
		p[0].Acts = make([][]impl.Set, acts)
		p[1].Acts = make([][]impl.Set, 3)
		checkProg(t, "Ons", p, want)
	}
	check(1, true, impl.On{Event: 2})
	check(1, true, impl.On{Event: 0}, impl.On{Event: 1}, impl.On{Event: 2})
	check(3, true, impl.On{Event: 0, Act: 2}, impl.On{Event: 2, Act: 2})
	for _, events := range [][]int{{-1}, {3}, {0, 0}, {2, 2}, {1, 0}, {0, 2, 1}, {0, 1, 3}, {0, 1, 2, 2}, {0, 1, 2, 3}, {math.MinInt}, {math.MaxInt}} {
		var ons []impl.On
		for _, e := range events {
			ons = append(ons, impl.On{Event: e})
		}
		check(1, false, ons...)
	}
	for acts := range 4 {
		for _, act := range []int{math.MinInt, -1, 0, 1, 2, 3, math.MaxInt} {
			check(acts, 0 <= act && act < acts, impl.On{Act: act})
			if acts > 0 {
				check(acts, 0 <= act && act < acts, impl.On{}, impl.On{Event: 1, Act: act})
			}
		}
	}
}

func TestProgOkOfCalls(t *testing.T) {
	for at := range 4 {
		for comp := -1; comp <= 5; comp++ {
			p := make([]impl.Comp, 4)
			for i := range p {
				p[i].Body = textOf(one())
			}
			p[at].Body = callOf(comp)
			checkProg(t, "a call", p, at < comp && comp < 4)
			p[at].Body = elemOf(0, giveOf(0, one(), ifOf(one(), textOf(one()), callOf(comp))))
			checkProg(t, "a call that is deep", p, at < comp && comp < 4)
		}
	}
	for props := range 4 {
		for args := range 6 {
			p := []impl.Comp{{Body: callOf(1, ones(args)...)}, {Props: props, Body: textOf(one())}}
			checkProg(t, "a call with Args", p, args == props)
		}
	}
}

// wraps puts a template into one of each kind that can have Kids.
func wraps() []func(b impl.Tmpl) impl.Tmpl {
	return []func(b impl.Tmpl) impl.Tmpl{
		func(b impl.Tmpl) impl.Tmpl { return elemOf(0, b) },
		func(b impl.Tmpl) impl.Tmpl { return elemOf(0, textOf(one()), textOf(one()), textOf(one()), b) },
		func(b impl.Tmpl) impl.Tmpl { return ifOf(one(), b) },
		func(b impl.Tmpl) impl.Tmpl { return ifOf(one(), textOf(one()), b) },
		func(b impl.Tmpl) impl.Tmpl { return eachOf(one(), nil, b) },
		func(b impl.Tmpl) impl.Tmpl { return giveOf(0, one(), b) },
	}
}

func TestProgOkOfDepths(t *testing.T) {
	for _, n := range allNeeds() {
		deep := 1 + min(n.kids[0], 1)
		for _, wrap := range wraps() {
			b := n.least()
			for depth := deep; depth <= 7; depth++ {
				checkBody(t, "a depth", b, depth <= 4)
				b = wrap(b)
			}
		}
	}
	for _, inner := range wraps() {
		for _, outer := range wraps() {
			checkBody(t, "depth 4", outer(inner(outer(textOf(one())))), true)
			checkBody(t, "depth 5", outer(inner(outer(inner(textOf(one()))))), false)
		}
	}
}

// All Args are valid where they stand, with the props, states and turns that there are.
func TestProgOkOfFormulas(t *testing.T) {
	kinds := []func(f []impl.Step) impl.Tmpl{
		textOf,
		func(f []impl.Step) impl.Tmpl {
			return impl.Tmpl{Kind: impl.TmplElem, Names: []int{2}, Args: [][]impl.Step{f}}
		},
		func(f []impl.Step) impl.Tmpl {
			return impl.Tmpl{Kind: impl.TmplElem, Names: []int{0, 2}, Args: [][]impl.Step{one(), f}}
		},
		func(f []impl.Step) impl.Tmpl { return ifOf(f, textOf(one())) },
		func(f []impl.Step) impl.Tmpl { return eachOf(f, nil, textOf(one())) },
		func(f []impl.Step) impl.Tmpl { return callOf(3, f, one()) },
		func(f []impl.Step) impl.Tmpl { return callOf(3, one(), f) },
		func(f []impl.Step) impl.Tmpl { return giveOf(1, f) },
	}
	check := func(b impl.Tmpl, want bool) {
		t.Helper()
		p := []impl.Comp{{States: make([]impl.Value, 3), Body: textOf(one())}, {Props: 2, States: make([]impl.Value, 1), Body: b}, {Props: 3, Body: textOf(one())}, {Props: 2, Body: textOf(one())}}
		checkProg(t, "formulas", p, want)
	}
	for _, kind := range kinds {
		for _, f := range [][]impl.Step{one(), {prop(1)}, {state(0)}, {use(1)}, sums(9)} {
			check(kind(f), true)
		}
		for _, f := range [][]impl.Step{nil, {}, {prop(2)}, {state(1)}, {use(2)}, {turn(0)}, {do(0)}, {con(num(1)), con(num(1))}, {con(num(1001))}, sums(11)} {
			check(kind(f), false)
			for _, wrap := range wraps() {
				if len(f) != 1 || f[0] != turn(0) {
					check(wrap(kind(f)), false)
				}
			}
		}
	}
}

func TestProgOkOfTurns(t *testing.T) {
	loop := func(loops int, b impl.Tmpl) impl.Tmpl {
		for range loops {
			b = eachOf(one(), nil, b)
		}
		return b
	}
	for loops := range 3 {
		for a := range 5 {
			f := steps(turn(a))
			checkBody(t, "a turn in a text", loop(loops, textOf(f)), a < loops)
			checkBody(t, "a turn in a text in an element", loop(loops, elemOf(0, textOf(f))), a < loops)
			checkBody(t, "a turn beside a loop", loop(loops, elemOf(0, eachOf(one(), nil, textOf(one())), textOf(f))), loops < 2 && a < loops)
			checkBody(t, "a turn as how many turns", loop(loops, eachOf(f, nil, textOf(one()))), a < loops)
			checkBody(t, "a turn in a Key", loop(loops, eachOf(one(), f, textOf(one()))), a < loops+1)
			checkBody(t, "a turn in the Kid", loop(loops, eachOf(one(), nil, textOf(f))), a < loops+1)
			checkBody(t, "a turn in a call", loop(loops, callOf(1, one(), f)), a < loops)
		}
	}
	checkBody(t, "three loops", loop(3, textOf(steps(turn(2)))), true)
	checkBody(t, "a turn more than three loops", loop(3, textOf(steps(turn(3)))), false)
	checkBody(t, "a Key of two values", eachOf(one(), steps(con(num(1)), con(num(1))), textOf(one())), false)
	checkBody(t, "a Key by a prop", eachOf(one(), steps(prop(0)), textOf(one())), false)
	checkBody(t, "a Key by a state", eachOf(one(), steps(state(0)), textOf(one())), false)
	p := progOf(loop(1, callOf(2)))
	p[2].Body = textOf(steps(turn(0)))
	checkProg(t, "a turn of the component that calls", p, false)
}

// Each change makes the full program one that is not valid, so that no component and no template goes unseen.
func TestProgOkOfChanges(t *testing.T) {
	wrong := []func(c *impl.Comp){
		func(c *impl.Comp) { c.Props = 4 },
		func(c *impl.Comp) { c.States[2] = num(1001) },
		func(c *impl.Comp) { c.States = append(c.States, none()) },
		func(c *impl.Comp) { c.Acts = append(c.Acts, nil) },
		func(c *impl.Comp) { c.Acts[2][2].State = 3 },
		func(c *impl.Comp) { c.Acts[2][2].Form = steps(prop(0)) },
		func(c *impl.Comp) { c.Acts[2] = append(c.Acts[2], c.Acts[0][0]) },
		func(c *impl.Comp) { c.Body.Args[2] = steps(turn(0)) },
		func(c *impl.Comp) { c.Body.Kind = 6 },
		func(c *impl.Comp) { c.Body.Tag = -1 },
		func(c *impl.Comp) { c.Body.Key = one() },
	}
	for _, change := range wrong {
		for at := range 3 {
			p := fullProg()
			change(&p[at])
			checkProg(t, "a change of a component", p, false)
		}
	}
	for kid := range 4 {
		p := fullProg()
		p[1].Body.Kids[kid].Key = steps(prop(3))
		checkProg(t, "a change of a template", p, false)
		p = fullProg()
		p[1].Body.Kids[kid] = impl.Tmpl{}
		checkProg(t, "the zero template", p, false)
	}
	p := fullProg()
	p[1].Body.Kids = append(p[1].Body.Kids, textOf(one()))
	checkProg(t, "a Kid more", p, false)
}

// sized returns a program of 199 parts, and so many more.
func sized(more int) []impl.Comp {
	half := eachOf(one(), nil, eachOf(one(), nil, eachOf(one(), nil, textOf(one()))))
	rest := elemOf(0, elemOf(0, texts(more)...), textOf(one()), textOf(one()), textOf(one()))
	return []impl.Comp{{Body: elemOf(0, callOf(1), callOf(1), eachOf(one(), nil, elemOf(0, texts(4)...)), rest)}, {Body: half}}
}

func TestProgSizeOfMaxNodes(t *testing.T) {
	for more := range 5 {
		checkProg(t, "parts", sized(more), more == 0)
	}
	if n := impl.ProgSize(sized(0)); n != 199 {
		t.Errorf("ProgSize = %d, not 199", n)
	}
}

func TestProgSizeOfTheRootAlone(t *testing.T) {
	p := append([]impl.Comp{{Body: textOf(one())}}, sized(2)...)
	p[1].Body.Kids[0].Tag, p[1].Body.Kids[1].Tag = 2, 2
	checkProg(t, "too many parts that are not called", p, true)
	if n := impl.ProgSize(p); n != 1 {
		t.Errorf("ProgSize = %d, not 1", n)
	}
	p[0].Body = callOf(1)
	checkProg(t, "too many parts that are called", p, false)
}

func TestProgSizeOfVeryManyParts(t *testing.T) {
	p := make([]impl.Comp, 4)
	for at := range p {
		b := textOf(one())
		if at < 3 {
			b = callOf(at + 1)
		}
		for range 3 {
			b = elemOf(0, b, b, b, b)
		}
		p[at].Body = b
	}
	checkProg(t, "very many parts", p, false)
	p[2].Body = textOf(one())
	p[0].Body = textOf(one())
	checkProg(t, "very many parts that are not called", p, true)
}

func checkSize(t *testing.T, p []impl.Comp, want int) {
	t.Helper()
	if n := impl.ProgSize(p); n != want {
		t.Errorf("ProgSize(%v) = %d, not %d", p, n, want)
	}
}

func TestProgSize(t *testing.T) {
	checkSize(t, progOf(textOf(one())), 1)
	checkSize(t, progOf(elemOf(0)), 1)
	checkSize(t, progOf(elemOf(0, texts(4)...)), 5)
	checkSize(t, progOf(ifOf(one(), texts(1)...)), 2)
	checkSize(t, progOf(ifOf(one(), texts(2)...)), 3)
	checkSize(t, progOf(giveOf(0, one())), 1)
	checkSize(t, progOf(giveOf(0, one(), texts(3)...)), 4)
	checkSize(t, progOf(eachOf(one(), nil, textOf(one()))), 5)
	checkSize(t, progOf(eachOf(one(), one(), elemOf(0, texts(2)...))), 13)
	checkSize(t, progOf(eachOf(one(), nil, eachOf(one(), nil, textOf(one())))), 21)
	checkSize(t, progOf(callOf(2)), 2)
	checkSize(t, progOf(eachOf(one(), nil, callOf(2))), 9)
	checkSize(t, fullProg(), 47)
	checkSize(t, nil, -1)
	eachRandomProg(func(_ *rand.Rand, p []impl.Comp) {
		checkProg(t, "a random program", p, true)
		checkSize(t, p, wantSize(p, p[0].Body))
	})
}

// tangled returns templates that are in themselves: Kids of an element that has the same Kids.
func tangled(many int) impl.Tmpl {
	kids := make([]impl.Tmpl, many)
	for i := range kids {
		kids[i] = impl.Tmpl{Kind: impl.TmplElem, Kids: kids}
	}
	return kids[0]
}

func TestProgOkEndsWithTemplatesInThemselves(t *testing.T) {
	for _, many := range []int{1, 2, 4, 5, 1000} {
		checkBody(t, "a template in itself", tangled(many), false)
	}
	b := eachOf(one(), nil, textOf(one()))
	b.Kids[0] = b
	checkBody(t, "a loop in itself", b, false)
}

func checkBelow(t *testing.T, p []impl.Comp, at int, want ...int) {
	t.Helper()
	if list := impl.ProgBelow(p, at); !slices.Equal(list, want) {
		t.Errorf("ProgBelow(%v, %d) = %v, not %v", p, at, list, want)
	}
}

func TestProgBelow(t *testing.T) {
	p := fullProg()
	checkBelow(t, p, 0, 1, 2, 3)
	checkBelow(t, p, 1, 2, 3)
	checkBelow(t, p, 2)
	checkBelow(t, p, 3)
	for _, at := range []int{math.MinInt, -2, -1, 4, 5, 1 << 32, math.MaxInt} {
		checkBelow(t, p, at)
	}
	checkBelow(t, p[3:], 0)
	checkBelow(t, p[3:], 1)
	checkBelow(t, p[3:], -1)
	checkBelow(t, nil, 0)
	for _, wrap := range wraps() {
		checkBelow(t, progOf(wrap(wrap(wrap(callOf(2))))), 0, 2)
	}
	checkBelow(t, progOf(elemOf(0, callOf(2), callOf(1, one(), one()), callOf(2), callOf(2))), 0, 1, 2)
	// Tags of others are not calls.
	checkBelow(t, progOf(elemOf(1, giveOf(1, one()), elemOf(2))), 0)
	p[3].Body.Tag = 5
	checkBelow(t, p, 0)
}

// All programs of four components that call each other in some way.
func TestProgBelowOfAllCalls(t *testing.T) {
	for calls := range 64 {
		var below [4][4]bool
		p := make([]impl.Comp, 4)
		bit := 0
		for at := range p {
			p[at].Body = elemOf(0)
			for comp := at + 1; comp < 4; comp++ {
				if calls>>bit&1 == 1 {
					below[at][comp] = true
					p[at].Body.Kids = append(p[at].Body.Kids, callOf(comp))
				}
				bit++
			}
			slices.Reverse(p[at].Body.Kids)
		}
		for mid := range 4 {
			for at := range 4 {
				for comp := range 4 {
					below[at][comp] = below[at][comp] || below[at][mid] && below[mid][comp]
				}
			}
		}
		for at := range p {
			var want []int
			for comp, is := range below[at] {
				if is {
					want = append(want, comp)
				}
			}
			checkBelow(t, p, at, want...)
		}
	}
}

func TestProgramsChangeAndShareNothing(t *testing.T) {
	p := fullProg()
	impl.ProgOk(p)
	impl.ProgSize(p)
	list := impl.ProgBelow(p, 0)
	checkUnshared(t, list, p)
	list[0] = 7
	_ = append(list, 8)
	checkBelow(t, p, 0, 1, 2, 3)
	checkSame(t, "the program", p, fullProg())
}

func TestPromise10CalledComponentsStandBehind(t *testing.T) {
	many := 0
	eachRandomProg(func(_ *rand.Rand, p []impl.Comp) {
		for at := range p {
			list := impl.ProgBelow(p, at)
			many += len(list)
			last := at
			for _, comp := range list {
				if comp <= last || comp >= len(p) {
					t.Errorf("ProgBelow(%v, %d) = %v", p, at, list)
				}
				last = comp
				for _, below := range impl.ProgBelow(p, comp) {
					if !slices.Contains(list, below) {
						t.Errorf("ProgBelow(%v, %d) = %v has not %d, which is below %d", p, at, list, below, comp)
					}
				}
			}
			walkCalls(p[at].Body, func(comp int) {
				if !slices.Contains(list, comp) {
					t.Errorf("ProgBelow(%v, %d) = %v has not %d, which is called", p, at, list, comp)
				}
			})
		}
	})
	if many < 1000 {
		t.Errorf("the programs call no more than %d components", many)
	}
}

func walkCalls(b impl.Tmpl, visit func(comp int)) {
	if b.Kind == impl.TmplCall {
		visit(b.Tag)
	}
	for _, kid := range b.Kids {
		walkCalls(kid, visit)
	}
}
