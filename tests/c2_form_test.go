package tests

import (
	"math"
	"math/rand/v2"
	"slices"
	"testing"

	"loop.example/drawnanew/impl"
)

func con(v impl.Value) impl.Step { return impl.Step{Kind: impl.FormConst, Val: v} }

func prop(a int) impl.Step { return impl.Step{Kind: impl.FormProp, A: a} }

func state(a int) impl.Step { return impl.Step{Kind: impl.FormState, A: a} }

func turn(a int) impl.Step { return impl.Step{Kind: impl.FormTurn, A: a} }

func use(a int) impl.Step { return impl.Step{Kind: impl.FormUse, A: a} }

func do(op int) impl.Step { return impl.Step{Kind: impl.FormDo, A: op} }

func pick() impl.Step { return impl.Step{Kind: impl.FormPick} }

func steps(list ...impl.Step) []impl.Step { return list }

// fullEnv has as much as an Env can have, and no value twice.
func fullEnv() impl.Env {
	return impl.Env{
		Props:  []impl.Value{num(10), text("p1"), num(12)},
		States: []impl.Value{text("s0"), num(21), num(-22)},
		Turns:  []int{3, 2, 1, 0},
		Gifts:  []impl.Value{num(30), text("g1")},
	}
}

func bareEnv() impl.Env { return impl.Env{Gifts: make([]impl.Value, impl.MaxGifts)} }

// sums returns a formula of 1 + 1 + .. of so many steps, an odd number of them.
func sums(many int) []impl.Step {
	f := steps(con(num(1)))
	for len(f) < many {
		f = append(f, con(num(1)), do(impl.OpAdd))
	}
	return f
}

// rest takes the last value off a formula and returns what is ahead of it: a formula read from its end, unlike in the program.
func rest(f []impl.Step, props, states, turns int) ([]impl.Step, bool) {
	if len(f) == 0 {
		return nil, false
	}
	s, f := f[len(f)-1], f[:len(f)-1]
	limit := map[int]int{impl.FormConst: 1, impl.FormProp: props, impl.FormState: states, impl.FormTurn: turns, impl.FormUse: 2, impl.FormDo: math.MaxInt, impl.FormPick: 1}
	if many, known := limit[s.Kind]; !known || s.Kind != impl.FormDo && (s.A < 0 || s.A >= many) {
		return nil, false
	}
	if s.Kind == impl.FormConst && !impl.ValOk(s.Val) || s.Kind != impl.FormConst && s.Val != none() {
		return nil, false
	}
	ok := true
	for n := map[int]int{impl.FormDo: 2, impl.FormPick: 3}[s.Kind]; n > 0 && ok; n-- {
		f, ok = rest(f, props, states, turns)
	}
	return f, ok
}

func wantOk(f []impl.Step, props, states, turns int) bool {
	left, ok := rest(f, props, states, turns)
	return ok && len(left) == 0 && len(f) <= 9
}

// wantValue returns the last value of a valid formula, and what is ahead of it.
func wantValue(f []impl.Step, e impl.Env) (impl.Value, []impl.Step) {
	s, f := f[len(f)-1], f[:len(f)-1]
	switch s.Kind {
	case impl.FormProp:
		return e.Props[s.A], f
	case impl.FormState:
		return e.States[s.A], f
	case impl.FormTurn:
		inner := slices.Clone(e.Turns)
		slices.Reverse(inner)
		return num(inner[s.A]), f
	case impl.FormUse:
		return e.Gifts[s.A], f
	case impl.FormDo:
		b, f := wantValue(f, e)
		a, f := wantValue(f, e)
		return impl.ValDo(s.A, a, b), f
	case impl.FormPick:
		no, f := wantValue(f, e)
		yes, f := wantValue(f, e)
		asked, f := wantValue(f, e)
		if impl.ValTrue(asked) {
			return yes, f
		}
		return no, f
	}
	return s.Val, f
}

// randomForm returns a valid formula of at most so many steps.
func randomForm(r *rand.Rand, most, props, states, turns int) []impl.Step {
	switch n := r.IntN(8); {
	case n >= 6 && most >= 4:
		a := randomForm(r, most-3, props, states, turns)
		b := randomForm(r, most-2-len(a), props, states, turns)
		c := randomForm(r, most-1-len(a)-len(b), props, states, turns)
		return append(slices.Concat(a, b, c), pick())
	case n >= 3 && most >= 3:
		a := randomForm(r, most-2, props, states, turns)
		b := randomForm(r, most-1-len(a), props, states, turns)
		return append(slices.Concat(a, b), do(r.IntN(7)))
	}
	return steps(randomSource(r, props, states, turns))
}

func randomSource(r *rand.Rand, props, states, turns int) impl.Step {
	all := validValues()
	list := steps(con(all[r.IntN(len(all))]), con(num(r.IntN(5))), use(r.IntN(2)))
	if props > 0 {
		list = append(list, prop(r.IntN(props)))
	}
	if states > 0 {
		list = append(list, state(r.IntN(states)))
	}
	if turns > 0 {
		list = append(list, turn(r.IntN(turns)))
	}
	return list[r.IntN(len(list))]
}

func randomEnv(r *rand.Rand, props, states, turns int) impl.Env {
	values := func(many int) []impl.Value {
		all := validValues()
		list := make([]impl.Value, many)
		for i := range list {
			list[i] = all[r.IntN(len(all))]
		}
		return list
	}
	e := impl.Env{Props: values(props), States: values(states), Gifts: values(2)}
	for range turns {
		e.Turns = append(e.Turns, r.IntN(4))
	}
	return e
}

// eachRandomForm calls with random valid formulas and what they find.
func eachRandomForm(visit func(r *rand.Rand, f []impl.Step, e impl.Env)) {
	r := rand.New(rand.NewPCG(2, 7))
	for range 6000 {
		props, states, turns := r.IntN(4), r.IntN(4), r.IntN(5)
		f := randomForm(r, 1+r.IntN(9), props, states, turns)
		visit(r, f, randomEnv(r, props, states, turns))
	}
}

func checkFormOk(t *testing.T, f []impl.Step, props, states, turns int, want bool) {
	t.Helper()
	if impl.FormOk(f, props, states, turns) != want {
		t.Errorf("FormOk(%v, %d, %d, %d) is %v", f, props, states, turns, !want)
	}
}

func checkFormValue(t *testing.T, f []impl.Step, e impl.Env, want impl.Value) {
	t.Helper()
	if v := impl.FormValue(f, e); v != want {
		t.Errorf("FormValue(%v, %v) = %#v, not %#v", f, e, v, want)
	}
}

func checkFormNeeds(t *testing.T, f []impl.Step, kind int, want ...int) {
	t.Helper()
	if got := impl.FormNeeds(f, kind); !slices.Equal(got, want) {
		t.Errorf("FormNeeds(%v, %d) = %v, not %v", f, kind, got, want)
	}
}

func TestFormConstants(t *testing.T) {
	got := []int{impl.MaxForm, impl.MaxProps, impl.MaxStates, impl.MaxDeep, impl.MaxEach, impl.MaxGifts, impl.FormConst, impl.FormProp, impl.FormState, impl.FormTurn, impl.FormUse, impl.FormDo, impl.FormPick}
	if want := []int{9, 3, 3, 4, 4, 2, 0, 1, 2, 3, 4, 5, 6}; !slices.Equal(got, want) {
		t.Errorf("the constants are %v, not %v", got, want)
	}
}

func TestFormOkOfNumbersOfSteps(t *testing.T) {
	checkFormOk(t, nil, 3, 3, 4, false)
	checkFormOk(t, steps(), 3, 3, 4, false)
	for many := 1; many <= 15; many += 2 {
		checkFormOk(t, sums(many), 0, 0, 0, many <= 9)
	}
	ten := append(append(steps(con(num(1)), con(num(2)), con(num(3)), pick()), sums(5)...), do(impl.OpAdd))
	checkFormOk(t, ten, 0, 0, 0, false)
	checkFormOk(t, append(steps(con(num(1)), con(num(2)), con(num(3)), pick()), sums(3)[:2]...), 0, 0, 0, false)
	checkFormOk(t, append(append(steps(con(num(1)), con(num(2)), con(num(3)), pick()), sums(3)...), do(impl.OpAdd)), 0, 0, 0, true)
}

func TestFormOkOfNumbersOfValues(t *testing.T) {
	one := con(num(1))
	for _, f := range [][]impl.Step{{one}, {one, one, do(0)}, {one, one, one, pick()}, {one, one, one, do(0), do(0)}, {one, one, do(0), one, do(0)}, {one, one, one, one, do(0), pick()}} {
		checkFormOk(t, f, 0, 0, 0, true)
	}
	tooFew := [][]impl.Step{{do(0)}, {one, do(0)}, {pick()}, {one, pick()}, {one, one, pick()}, {one, one, do(0), do(0)}, {one, one, one, pick(), do(0)}}
	tooFewAtFirst := [][]impl.Step{{do(0), one, one}, {one, do(0), one}, {pick(), one, one, one}, {one, pick(), one, one}, {one, one, pick(), one}, {one, do(0), one, one, one, pick()}}
	tooMany := [][]impl.Step{{one, one}, {one, one, one}, {one, one, one, do(0)}, {one, one, one, one, pick()}, {one, one, do(0), one}, {one, one, one, one, one, one, one, one, one}}
	for _, f := range slices.Concat(tooFew, tooFewAtFirst, tooMany) {
		checkFormOk(t, f, 3, 3, 4, false)
		checkFormValue(t, f, fullEnv(), none())
		for kind := range 7 {
			checkFormNeeds(t, f, kind)
		}
	}
}

func TestFormOkOfRanges(t *testing.T) {
	for a := -2; a <= 6; a++ {
		for many := 0; many <= 4; many++ {
			checkFormOk(t, steps(turn(a)), 3, 3, many, 0 <= a && a < many)
			if many <= 3 {
				checkFormOk(t, steps(prop(a)), many, 3, 4, 0 <= a && a < many)
				checkFormOk(t, steps(state(a)), 3, many, 4, 0 <= a && a < many)
			}
		}
		checkFormOk(t, steps(use(a)), 0, 0, 0, a == 0 || a == 1)
		checkFormOk(t, steps(use(a)), 3, 3, 4, a == 0 || a == 1)
	}
	for _, a := range []int{math.MinInt, math.MaxInt, 1 << 32, -1 << 32} {
		for _, s := range steps(prop(a), state(a), turn(a), use(a)) {
			checkFormOk(t, steps(s), 3, 3, 4, false)
		}
	}
}

func TestFormOkOfNumbersOfPropsStatesAndTurns(t *testing.T) {
	for n := -2; n <= 7; n++ {
		checkFormOk(t, steps(con(num(1))), n, 0, 0, 0 <= n && n <= 3)
		checkFormOk(t, steps(con(num(1))), 0, n, 0, 0 <= n && n <= 3)
		checkFormOk(t, steps(con(num(1))), 0, 0, n, 0 <= n && n <= 4)
		checkFormOk(t, steps(prop(0)), n, 0, 0, 1 <= n && n <= 3)
		checkFormOk(t, steps(state(0)), 0, n, 0, 1 <= n && n <= 3)
		checkFormOk(t, steps(turn(0)), 0, 0, n, 1 <= n && n <= 4)
	}
	for _, n := range []int{math.MinInt, math.MaxInt, 1 << 32, -1 << 32} {
		checkFormOk(t, steps(con(num(1))), n, 0, 0, false)
		checkFormOk(t, steps(con(num(1))), 0, n, 0, false)
		checkFormOk(t, steps(con(num(1))), 0, 0, n, false)
	}
}

// invalidSteps are wrong by themselves, wherever they stand.
func invalidSteps() []impl.Step {
	list := steps(
		impl.Step{Kind: impl.FormConst, A: 1}, impl.Step{Kind: impl.FormConst, A: -1, Val: num(1)},
		impl.Step{Kind: impl.FormPick, A: 1}, impl.Step{Kind: impl.FormPick, A: -1},
	)
	for _, kind := range []int{-1, 7, 8, math.MinInt, math.MaxInt, 1 << 32} {
		list = append(list, impl.Step{Kind: kind}, impl.Step{Kind: kind, Val: num(1)})
	}
	for kind := impl.FormProp; kind <= impl.FormPick; kind++ {
		for _, v := range append(invalidValues(), num(0), num(1), text(""), text("a")) {
			list = append(list, impl.Step{Kind: kind, Val: v})
		}
	}
	for _, v := range invalidValues() {
		list = append(list, con(v))
	}
	return list
}

func TestInvalidStepsMakeNoFormula(t *testing.T) {
	one := con(num(1))
	for _, s := range invalidSteps() {
		for _, f := range [][]impl.Step{{s}, {one, one, s}, {one, one, one, s}, {s, one, do(0)}, {one, s, do(0)}, {one, one, s, pick()}} {
			checkFormOk(t, f, 3, 3, 4, false)
			checkFormValue(t, f, fullEnv(), none())
			checkFormNeeds(t, append(steps(use(1)), append(f, do(impl.OpAdd))...), impl.FormUse)
		}
	}
}

func TestFormOkOfValues(t *testing.T) {
	for _, v := range validValues() {
		checkFormOk(t, steps(con(v)), 0, 0, 0, true)
		checkFormValue(t, steps(con(v)), bareEnv(), v)
	}
}

// The document gives FormDo no range of operators: by another one it yields what ValDo returns for it.
func TestFormDoByEachOperator(t *testing.T) {
	for _, op := range []int{-1, 0, 1, 2, 3, 4, 5, 6, 7, math.MinInt, math.MaxInt} {
		f := steps(con(num(7)), con(num(3)), do(op))
		checkFormOk(t, f, 0, 0, 0, true)
		checkFormValue(t, f, bareEnv(), impl.ValDo(op, num(7), num(3)))
	}
}

func TestFormValue(t *testing.T) {
	e := fullEnv()
	for i := range 3 {
		checkFormValue(t, steps(prop(i)), e, e.Props[i])
		checkFormValue(t, steps(state(i)), e, e.States[i])
	}
	for i := range 2 {
		checkFormValue(t, steps(use(i)), e, e.Gifts[i])
	}
	checkFormValue(t, steps(prop(0), prop(2), do(impl.OpSub)), e, num(-2))
	checkFormValue(t, steps(prop(2), prop(0), do(impl.OpSub)), e, num(2))
	checkFormValue(t, steps(state(0), use(1), do(impl.OpJoin)), e, text("s0g1"))
	checkFormValue(t, steps(state(0), use(1), do(impl.OpAdd)), e, none())
	checkFormValue(t, steps(con(num(9)), con(num(5)), con(num(2)), do(impl.OpSub), do(impl.OpSub)), e, num(6))
	checkFormValue(t, steps(con(num(9)), con(num(5)), do(impl.OpSub), con(num(2)), do(impl.OpSub)), e, num(2))
	checkFormValue(t, sums(9), e, num(5))
	checkFormValue(t, sums(11), e, none())
	checkFormValue(t, nil, e, none())
}

func TestFormTurnIsCountedFromTheInnermostOne(t *testing.T) {
	for many := 0; many <= 4; many++ {
		e := bareEnv()
		e.Turns = []int{3, 1, 0, 2}[:many]
		for a := -1; a <= 5; a++ {
			want := none()
			if 0 <= a && a < many {
				want = num(e.Turns[many-1-a])
			}
			checkFormValue(t, steps(turn(a)), e, want)
		}
	}
	e := bareEnv()
	e.Turns = []int{0}
	checkFormValue(t, steps(turn(0)), e, num(0))
}

func TestFormPick(t *testing.T) {
	for _, v := range validValues() {
		want := text("yes")
		if v == none() || v == num(0) || v == text("") {
			want = text("no")
		}
		checkFormValue(t, steps(con(v), con(text("yes")), con(text("no")), pick()), bareEnv(), want)
	}
}

func TestFormValueFindsAsMuchAsTheEnvHas(t *testing.T) {
	e := fullEnv()
	for n := range 3 {
		less := fullEnv()
		less.Props = e.Props[:n]
		checkFormValue(t, steps(prop(n)), less, none())
		less = fullEnv()
		less.States = e.States[:n]
		checkFormValue(t, steps(state(n)), less, none())
	}
	for _, f := range [][]impl.Step{{prop(3)}, {state(3)}, {turn(4)}, {use(2)}} {
		checkFormValue(t, f, e, none())
	}
	checkFormValue(t, steps(con(num(1))), bareEnv(), num(1))
}

// invalidEnvs are wrong in one thing each.
func invalidEnvs() []impl.Env {
	var list []impl.Env
	wrong := func(change func(e *impl.Env)) {
		for _, e := range []impl.Env{fullEnv(), bareEnv()} {
			change(&e)
			list = append(list, e)
		}
	}
	for _, many := range []int{4, 5, 40} {
		wrong(func(e *impl.Env) { e.Props = make([]impl.Value, many) })
		wrong(func(e *impl.Env) { e.States = make([]impl.Value, many) })
		wrong(func(e *impl.Env) { e.Turns = make([]int, many+1) })
	}
	for _, many := range []int{0, 1, 3, 4} {
		wrong(func(e *impl.Env) { e.Gifts = make([]impl.Value, many) })
	}
	for _, v := range invalidValues() {
		wrong(func(e *impl.Env) { e.Props = []impl.Value{v, num(1)} })
		wrong(func(e *impl.Env) { e.Props = []impl.Value{num(1), num(1), v} })
		wrong(func(e *impl.Env) { e.States = []impl.Value{v, num(1)} })
		wrong(func(e *impl.Env) { e.States = []impl.Value{num(1), num(1), v} })
		wrong(func(e *impl.Env) { e.Gifts = []impl.Value{v, num(1)} })
		wrong(func(e *impl.Env) { e.Gifts = []impl.Value{num(1), v} })
	}
	for _, n := range []int{-1, 4, 5, math.MinInt, math.MaxInt, 1 << 32} {
		wrong(func(e *impl.Env) { e.Turns = []int{n} })
		wrong(func(e *impl.Env) { e.Turns = []int{n, 0, 0, 0} })
		wrong(func(e *impl.Env) { e.Turns = []int{0, 0, 0, n} })
	}
	return list
}

func TestFormValueOfInvalidEnvs(t *testing.T) {
	for _, e := range invalidEnvs() {
		checkFormValue(t, steps(con(num(1))), e, none())
		checkFormValue(t, steps(con(num(1)), con(text("a")), do(impl.OpSame)), e, none())
	}
}

func TestFormNeeds(t *testing.T) {
	f := steps(prop(2), state(1), prop(0), pick(), turn(3), prop(2), pick())
	checkFormNeeds(t, f, impl.FormProp, 0, 2)
	checkFormNeeds(t, f, impl.FormState, 1)
	checkFormNeeds(t, f, impl.FormTurn, 3)
	checkFormNeeds(t, f, impl.FormUse)
	f = steps(use(1), use(0), use(1), pick(), state(2), state(1), do(0), state(0), pick())
	checkFormNeeds(t, f, impl.FormUse, 0, 1)
	checkFormNeeds(t, f, impl.FormState, 0, 1, 2)
	checkFormNeeds(t, f, impl.FormProp)
	f = steps(turn(3), turn(2), do(0), turn(1), do(0), turn(0), do(0))
	checkFormNeeds(t, f, impl.FormTurn, 0, 1, 2, 3)
}

func TestFormNeedsOfOtherKinds(t *testing.T) {
	f := steps(con(num(1)), use(1), prop(2), pick(), state(0), turn(1), do(2), do(3))
	for _, kind := range []int{impl.FormConst, impl.FormDo, impl.FormPick, -1, 7, math.MinInt, math.MaxInt, 1<<32 + 1} {
		checkFormNeeds(t, f, kind)
	}
	checkFormNeeds(t, f, impl.FormProp, 2)
}

func TestFormNeedsOfInvalidFormulas(t *testing.T) {
	for _, f := range [][]impl.Step{nil, {prop(0), prop(1)}, {prop(0), do(0)}, {prop(0), prop(3), do(0)}, {prop(0), state(3), do(0)}, {prop(0), turn(4), do(0)}, {prop(0), use(2), do(0)}, {prop(-1)}} {
		checkFormNeeds(t, f, impl.FormProp)
	}
	checkFormNeeds(t, append(sums(7), prop(1), do(0)), impl.FormProp, 1)
	checkFormNeeds(t, append(sums(9), prop(1), do(0)), impl.FormProp)
}

// All formulas of a few steps, most of which are not valid, are held against a reading from the end.
func TestAllShortFormulas(t *testing.T) {
	kinds := steps(con(num(0)), con(text("a")), prop(0), prop(1), state(0), turn(0), turn(1), use(1), do(impl.OpSub), do(impl.OpJoin), pick(), con(num(1001)))
	e := impl.Env{Props: []impl.Value{num(8)}, States: []impl.Value{text("b")}, Turns: []int{3, 2}, Gifts: []impl.Value{none(), num(5)}}
	var visit func(f []impl.Step)
	visit = func(f []impl.Step) {
		checkFormOk(t, f, 1, 1, 2, wantOk(f, 1, 1, 2))
		if wantOk(f, 1, 1, 2) {
			want, _ := wantValue(f, e)
			checkFormValue(t, f, e, want)
		} else {
			checkFormValue(t, f, e, none())
		}
		if len(f) < 4 {
			for _, s := range kinds {
				visit(append(slices.Clone(f), s))
			}
		}
	}
	visit(nil)
}

func TestRandomFormulas(t *testing.T) {
	eachRandomForm(func(r *rand.Rand, f []impl.Step, e impl.Env) {
		checkFormOk(t, f, len(e.Props), len(e.States), len(e.Turns), true)
		want, _ := wantValue(f, e)
		checkFormValue(t, f, e, want)
		other := slices.Clone(f)
		other[r.IntN(len(f))] = impl.Step{Kind: r.IntN(9) - 1, A: r.IntN(6) - 1, Val: validValues()[r.IntN(2)]}
		checkFormOk(t, other, len(e.Props), len(e.States), len(e.Turns), wantOk(other, len(e.Props), len(e.States), len(e.Turns)))
	})
}

func TestFormulasChangeAndShareNothing(t *testing.T) {
	f := steps(prop(2), prop(0), do(impl.OpAdd), turn(1), use(1), pick())
	e := fullEnv()
	impl.FormOk(f, 3, 3, 4)
	if v := impl.FormValue(f, e); v != num(1) {
		t.Errorf("FormValue = %#v", v)
	}
	needs := impl.FormNeeds(f, impl.FormProp)
	needs[0], needs[1] = 7, 8
	_ = append(needs, 9)
	checkFormNeeds(t, f, impl.FormProp, 0, 2)
	if !slices.Equal(f, steps(prop(2), prop(0), do(impl.OpAdd), turn(1), use(1), pick())) {
		t.Errorf("the formula is %v", f)
	}
	w := fullEnv()
	if !slices.Equal(e.Props, w.Props) || !slices.Equal(e.States, w.States) || !slices.Equal(e.Turns, w.Turns) || !slices.Equal(e.Gifts, w.Gifts) {
		t.Errorf("the Env is %v", e)
	}
}

func TestPromise5ValidWhereThereIsMore(t *testing.T) {
	eachRandomForm(func(_ *rand.Rand, f []impl.Step, e impl.Env) {
		for props := len(e.Props); props <= 3; props++ {
			for states := len(e.States); states <= 3; states++ {
				for turns := len(e.Turns); turns <= 4; turns++ {
					checkFormOk(t, f, props, states, turns, true)
				}
			}
		}
	})
	// More than there can be is not valid.
	checkFormOk(t, steps(prop(2)), 3, 0, 0, true)
	checkFormOk(t, steps(prop(2)), 4, 0, 0, false)
}

func TestPromise6ValueIsValidAndNeedsWhatIsTold(t *testing.T) {
	eachRandomForm(func(r *rand.Rand, f []impl.Step, e impl.Env) {
		v := impl.FormValue(f, e)
		if !impl.ValOk(v) {
			t.Errorf("FormValue(%v, %v) = %#v is not valid", f, e, v)
		}
		other := randomEnv(r, len(e.Props), len(e.States), len(e.Turns))
		for _, i := range impl.FormNeeds(f, impl.FormProp) {
			other.Props[i] = e.Props[i]
		}
		for _, i := range impl.FormNeeds(f, impl.FormState) {
			other.States[i] = e.States[i]
		}
		for _, i := range impl.FormNeeds(f, impl.FormTurn) {
			other.Turns[len(e.Turns)-1-i] = e.Turns[len(e.Turns)-1-i]
		}
		for _, i := range impl.FormNeeds(f, impl.FormUse) {
			other.Gifts[i] = e.Gifts[i]
		}
		checkFormValue(t, f, other, v)
	})
}

func TestPromise7NeedsAreSteps(t *testing.T) {
	eachRandomForm(func(_ *rand.Rand, f []impl.Step, _ impl.Env) {
		for kind := impl.FormProp; kind <= impl.FormUse; kind++ {
			var want []int
			for a := range 5 {
				if slices.Contains(f, impl.Step{Kind: kind, A: a}) {
					want = append(want, a)
				}
			}
			checkFormNeeds(t, f, kind, want...)
		}
	})
}
