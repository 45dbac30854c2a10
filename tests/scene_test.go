package tests

import (
	"math/rand/v2"
	"slices"
	"sync"
	"testing"

	"loop.example/drawnanew/impl"
)

// The tests' own drawing: components are expanded in place, and trees and drafts are taken from what was expanded.

// actor is a component that is drawn.
type actor struct {
	call   impl.Call
	states []impl.Value
	body   []thing
}

// thing is a text, an element with what is in it, or a component with the key that it got.
type thing struct {
	tree  impl.Tree
	ons   []impl.On
	owner *actor
	kids  []thing
	actor *actor
}

type scene struct {
	p []impl.Comp
	s []impl.Cell
}

func bareCall() impl.Call { return impl.Call{Gifts: make([]impl.Value, 2)} }

func (c scene) root() *actor { return c.actorOf(bareCall()) }

func (c scene) actorOf(call impl.Call) *actor {
	comp := c.p[call.Comp]
	a := &actor{call: call, states: comp.States}
	for _, has := range c.s {
		if slices.Equal(has.Place, call.Place) && len(has.States) == len(comp.States) {
			a.states = has.States
		}
	}
	a.body = c.things(a, comp.Body, below(call.Place, 0, 0), impl.Env{Props: call.Props, States: a.states, Gifts: call.Gifts})
	return a
}

func below(w []impl.Slot, pos, sub int) []impl.Slot {
	return append(slices.Clone(w), slot(pos, sub))
}

func valueOf(f []impl.Step, e impl.Env) impl.Value {
	v, _ := wantValue(f, e)
	return v
}

func (c scene) things(a *actor, b impl.Tmpl, w []impl.Slot, e impl.Env) []thing {
	var values []impl.Value
	for _, f := range b.Args {
		values = append(values, valueOf(f, e))
	}
	switch b.Kind {
	case impl.TmplText:
		return []thing{{tree: word(impl.ValShow(values[0]))}}
	case impl.TmplElem:
		x := thing{tree: elem(b.Tag, impl.NoKey), ons: b.Ons, owner: a, kids: c.all(a, b.Kids, w, e)}
		for i, name := range b.Names {
			x.tree.Props = append(x.tree.Props, propOf(name, values[i]))
		}
		return []thing{x}
	case impl.TmplIf:
		list := [][]thing{c.picked(a, b.Kids, 1, w, e), c.picked(a, b.Kids, 0, w, e)}
		return list[truth(impl.ValTrue(values[0])).Num]
	case impl.TmplEach:
		return c.turns(a, b, values[0], w, e)
	case impl.TmplCall:
		call := impl.Call{Place: w, Comp: b.Tag, Props: values, Gifts: e.Gifts}
		return []thing{{tree: impl.Tree{Tag: impl.TagHole, Key: impl.NoKey}, actor: c.actorOf(call)}}
	}
	e.Gifts = slices.Clone(e.Gifts)
	e.Gifts[b.Tag] = values[0]
	return c.all(a, b.Kids, w, e)
}

func (c scene) all(a *actor, kids []impl.Tmpl, w []impl.Slot, e impl.Env) []thing {
	var list []thing
	for pos := range kids {
		list = append(list, c.picked(a, kids, pos, w, e)...)
	}
	return list
}

func (c scene) picked(a *actor, kids []impl.Tmpl, pos int, w []impl.Slot, e impl.Env) []thing {
	if pos >= len(kids) {
		return nil
	}
	return c.things(a, kids[pos], below(w, pos, 0), e)
}

func (c scene) turns(a *actor, b impl.Tmpl, many impl.Value, w []impl.Slot, e impl.Env) []thing {
	var list []thing
	var keys []int
	for n := 0; n < 4 && many.Kind == impl.ValNum && n < many.Num; n++ {
		e.Turns = append(slices.Clone(e.Turns[:len(e.Turns)-min(n, 1)]), n)
		sub, key := n, impl.NoKey
		if len(b.Key) > 0 {
			if v := valueOf(b.Key, e); v.Kind == impl.ValNum && v.Num >= 0 && v.Num <= 99 {
				sub, key = 4+v.Num, v.Num
			}
		}
		if key >= 0 && slices.Contains(keys, key) {
			continue
		}
		keys = append(keys, key)
		turn := c.things(a, b.Kids[0], below(w, 0, sub), e)
		if key >= 0 && len(turn) > 0 && turn[0].tree.Tag != impl.TagText {
			turn[0].tree.Key = key
		}
		list = append(list, turn...)
	}
	return list
}

// flatThings puts what components draw in their place, with their keys.
func flatThings(list []thing) []thing {
	var out []thing
	for _, x := range list {
		if x.actor == nil {
			out = append(out, x)
			continue
		}
		inner := flatThings(x.actor.body)
		if x.tree.Key >= 0 && len(inner) > 0 && inner[0].tree.Tag >= 0 {
			inner[0].tree.Key = x.tree.Key
		}
		out = append(out, inner...)
	}
	return out
}

func (a *actor) trees() []impl.Tree { return wholeTrees(a.body) }

func wholeTrees(list []thing) []impl.Tree {
	var out []impl.Tree
	for _, x := range flatThings(list) {
		x.tree.Kids = wholeTrees(x.kids)
		if slices.ContainsFunc(out, func(o impl.Tree) bool { return o.Key == x.tree.Key }) {
			x.tree.Key = impl.NoKey
		}
		out = append(out, x.tree)
	}
	return out
}

func openTrees(list []thing) []impl.Tree {
	var out []impl.Tree
	for _, x := range list {
		x.tree.Kids = openTrees(x.kids)
		out = append(out, x.tree)
	}
	return out
}

// walkThings visits things of one component, each ahead of those in it.
func walkThings(list []thing, visit func(x thing)) {
	for _, x := range list {
		visit(x)
		walkThings(x.kids, visit)
	}
}

func (a *actor) draft() impl.Draft {
	d := impl.Draft{Call: a.call, States: a.states, Trees: openTrees(a.body)}
	elems := 0
	walkThings(a.body, func(x thing) {
		if x.actor != nil {
			d.Calls = append(d.Calls, x.actor.call)
		}
		if len(x.ons) > 0 {
			d.Binds = append(d.Binds, impl.Bind{Elem: elems, Ons: x.ons})
		}
		if x.tree.Tag >= 0 {
			elems++
		}
	})
	return d
}

func (a *actor) drafts() []impl.Draft {
	list := []impl.Draft{a.draft()}
	walkThings(a.body, func(x thing) {
		if x.actor != nil {
			list = append(list, x.actor.drafts()...)
		}
	})
	return list
}

func wantTree(p []impl.Comp, s []impl.Cell) impl.Tree {
	return elem(0, impl.NoKey, scene{p, s}.root().trees()...)
}

func wantDrafts(p []impl.Comp, s []impl.Cell) []impl.Draft { return scene{p, s}.root().drafts() }

// cellsOf returns the places and states of drafts as a store.
func cellsOf(list []impl.Draft) []impl.Cell {
	var s []impl.Cell
	for _, d := range list {
		s = append(s, cell(d.Call.Place, d.States...))
	}
	slices.SortFunc(s, func(a, b impl.Cell) int { return slices.Compare(flatPlace(a.Place), flatPlace(b.Place)) })
	return s
}

func wantStore(p []impl.Comp, s []impl.Cell) []impl.Cell { return cellsOf(wantDrafts(p, s)) }

// livelyForm returns a valid formula that yields small numbers more often than others do.
func livelyForm(r *rand.Rand, props, states, turns int) []impl.Step {
	a, b := randomSource(r, props, states, turns), con(num(r.IntN(6)))
	switch r.IntN(8) {
	case 0:
		return randomForm(r, 9, props, states, turns)
	case 1:
		return steps(a)
	case 2:
		return steps(b, a, do(impl.OpSub))
	case 3:
		return steps(a, b, do(impl.OpAdd))
	case 4:
		return steps(b)
	}
	var list []impl.Step
	for at := range states {
		list = append(list, state(at))
	}
	for at := range props {
		list = append(list, prop(at))
	}
	if turns > 0 {
		list = append(list, turn(r.IntN(turns)), turn(0))
	}
	return steps(append(list, b, use(r.IntN(2)))[r.IntN(len(list)+2)])
}

func livelyValue(r *rand.Rand) impl.Value {
	if r.IntN(4) == 0 {
		return randomValue(r)
	}
	return num(r.IntN(5))
}

// livelyProg returns a random valid program that draws much, with components that stand within each other and in turns.
func livelyProg(r *rand.Rand) []impl.Comp {
	p := make([]impl.Comp, 2+r.IntN(3))
	for at := range p {
		p[at].Props = min(at, r.IntN(4))
		for range 1 + r.IntN(3) {
			p[at].States = append(p[at].States, livelyValue(r))
		}
		if r.IntN(8) == 0 {
			p[at].States = nil
		}
	}
	for at := range p {
		m := progMaker{r: r, p: p, at: at, lively: true}
		p[at].Acts = append(m.acts(), m.acts()...)
		p[at].Acts = p[at].Acts[:min(3, len(p[at].Acts))]
		p[at].Body = m.tmpl(1, 0)
		if at+1 < len(p) && r.IntN(3) > 0 {
			call := callOf(at+1, m.forms(p[at+1].Props, 1)...)
			p[at].Body = elemOf(r.IntN(5), m.tmpl(2, 0), eachOf(m.form(0), m.form(1), call), eachOf(m.form(0), m.form(1), m.elem(3, 1)))
		}
	}
	if n := wantSize(p, p[0].Body); n > 199 || n < 5 {
		return livelyProg(r)
	}
	return p
}

// livelyStore returns a random valid store for a program: mostly cells of components that it draws, with other states.
func livelyStore(r *rand.Rand, p []impl.Comp) []impl.Cell {
	var s []impl.Cell
	for range r.IntN(3) {
		s = wantStore(p, s)
		for i := range s {
			s[i].States = slices.Clone(s[i].States)
			for at := range s[i].States {
				if r.IntN(2) == 0 {
					s[i].States[at] = livelyValue(r)
				}
			}
		}
	}
	for i := range s {
		if r.IntN(10) == 0 {
			s[i].States = randomStates(r)
		}
	}
	return slices.DeleteFunc(s, func(impl.Cell) bool { return r.IntN(10) == 0 })
}

// livelyProgs are made once: most of those that are tried are too large or too small.
var livelyProgs = sync.OnceValue(func() [][]impl.Comp {
	r := rand.New(rand.NewPCG(7, 20))
	list := make([][]impl.Comp, 2500)
	for i := range list {
		list[i] = livelyProg(r)
	}
	return list
})

// eachLively calls with random programs and stores, at most 2500.
func eachLively(many int, visit func(r *rand.Rand, p []impl.Comp, s []impl.Cell)) {
	r := rand.New(rand.NewPCG(7, 21))
	for _, p := range livelyProgs()[:many] {
		visit(r, p, livelyStore(r, p))
	}
}

// invalidProgs are not valid for one reason each.
func invalidProgs() [][]impl.Comp {
	root := progOf(textOf(one()))
	root[0].Props = 1
	states := progOf(textOf(one()))
	states[2].States = make([]impl.Value, 4)
	acts := progOf(textOf(one()))
	acts[0].Acts = [][]impl.Set{{{Form: one()}}}
	return [][]impl.Comp{
		nil, {}, {{}}, root, states, acts,
		append(fullProg(), impl.Comp{Body: elemOf(0)}),
		progOf(textOf(nil)), progOf(elemOf(5)), progOf(callOf(0)), progOf(callOf(3)), progOf(callOf(1)), progOf(tangled(2)),
		progOf(eachOf(one(), nil)), progOf(ifOf(one())), progOf(giveOf(2, one())),
		sized(1),
	}
}

// The random programs and stores have what they are for.
func TestLivelyPrograms(t *testing.T) {
	found := map[string]int{}
	eachLively(2500, func(_ *rand.Rand, p []impl.Comp, s []impl.Cell) {
		if !impl.ProgOk(p) || !impl.StoreOk(s) {
			t.Errorf("ProgOk(%v) is %v, StoreOk(%v) is %v", p, impl.ProgOk(p), s, impl.StoreOk(s))
		}
		list := wantDrafts(p, s)
		places := map[bool]int{}
		for _, d := range list {
			walkTrees(d.Trees, func(x impl.Tree) {
				found["holes with keys"] += truth(x.Tag == impl.TagHole && x.Key >= 0).Num
				found["elements with keys"] += truth(x.Tag >= 0 && x.Key >= 0).Num
			})
			found["gifts"] += truth(d.Call.Gifts[0] != none() || d.Call.Gifts[1] != none()).Num
			found["binds"] += len(d.Binds)
			_, has := impl.StoreGet(s, d.Call.Place)
			places[has]++
		}
		found["programs of several drafts"] += truth(len(list) > 2).Num
		found["programs of many drafts"] += truth(len(list) > 8).Num
		found["cells that are drawn and components without a cell"] += truth(places[true] > 0 && places[false] > 0).Num
		found["keys taken away"] += truth(!same(wantTree(p, s).Kids, flatTrees(scene{p, s}.root().body))).Num
	})
	for what, many := range found {
		if many < 30 {
			t.Errorf("%s: %d", what, many)
		}
	}
}

func walkTrees(list []impl.Tree, visit func(x impl.Tree)) {
	for _, x := range list {
		visit(x)
		walkTrees(x.Kids, visit)
	}
}

// flatTrees is wholeTrees with all keys.
func flatTrees(list []thing) []impl.Tree {
	var out []impl.Tree
	for _, x := range flatThings(list) {
		x.tree.Kids = flatTrees(x.kids)
		out = append(out, x.tree)
	}
	return out
}
