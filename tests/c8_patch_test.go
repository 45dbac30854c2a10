package tests

import (
	"math"
	"math/rand/v2"
	"slices"
	"testing"

	"loop.example/drawnanew/impl"
)

// read returns the tree of a text that is one.
func read(s string) impl.Tree {
	t, ok := impl.TreeRead(s)
	if !ok {
		panic("no tree: " + s)
	}
	return t
}

// wantEdits writes edits by the chapter's words, with searches in the place of maps, and rows tried one by one.
func wantEdits(a, b impl.Tree) []impl.Edit {
	if a.Tag != b.Tag || a.Key != b.Key {
		return []impl.Edit{{Kind: impl.EditAll, Tree: b}}
	}
	return wantPartEdits(a, b, nil)
}

func wantPartEdits(a, b impl.Tree, way []int) []impl.Edit {
	var list []impl.Edit
	add := func(e impl.Edit) {
		e.Way = way
		list = append(list, e)
	}
	if a.Text != b.Text {
		add(impl.Edit{Kind: impl.EditText, Val: impl.Value{Kind: impl.ValText, Text: b.Text}})
	}
	for name := range 4 {
		in := func(t impl.Tree) int {
			return slices.IndexFunc(t.Props, func(p impl.Prop) bool { return p.Name == name })
		}
		if in(a) >= 0 && in(b) < 0 {
			add(impl.Edit{Kind: impl.EditDrop, At: name})
		}
		if in(b) >= 0 && (in(a) < 0 || a.Props[in(a)] != b.Props[in(b)]) {
			add(impl.Edit{Kind: impl.EditProp, At: name, Val: b.Props[in(b)].Val})
		}
	}
	of := wantPartners(a.Kids, b.Kids)
	var now []int
	for i := len(a.Kids) - 1; i >= 0; i-- {
		if slices.Contains(of, i) {
			now = append([]int{i}, now...)
		} else {
			add(impl.Edit{Kind: impl.EditGone, At: i})
		}
	}
	stays := wantRow(of)
	for i := len(b.Kids) - 1; i >= 0; i-- {
		to := len(now)
		if i+1 < len(b.Kids) {
			to = slices.Index(now, of[i+1])
		}
		at := slices.Index(now, of[i])
		if of[i] < 0 {
			// What is made is known by a number of its own from now on.
			of[i] = 1000 + i
			now = slices.Insert(now, to, of[i])
			add(impl.Edit{Kind: impl.EditMake, At: to, Tree: b.Kids[i]})
		} else if !slices.Contains(stays, i) {
			if at < to {
				to--
			}
			now = slices.Insert(slices.Delete(now, at, at+1), to, of[i])
			add(impl.Edit{Kind: impl.EditMove, At: at, To: to})
		}
	}
	for i, kid := range b.Kids {
		if of[i] < 1000 {
			list = append(list, wantPartEdits(a.Kids[of[i]], kid, append(slices.Clone(way), i))...)
		}
	}
	return list
}

func wantPartners(a, b []impl.Tree) []int {
	var of []int
	for _, kid := range b {
		at := slices.IndexFunc(a, func(o impl.Tree) bool { return o.Tag == kid.Tag && o.Key == kid.Key })
		for at >= 0 && slices.Contains(of, at) {
			next := slices.IndexFunc(a[at+1:], func(o impl.Tree) bool { return o.Tag == kid.Tag && o.Key == kid.Key })
			if next < 0 {
				at = -1
				break
			}
			at += 1 + next
		}
		of = append(of, at)
	}
	return of
}

// wantRow returns the places of the longest rising row, of several ones the one with the earliest places; the rows that end at each place are kept whole.
func wantRow(of []int) []int {
	var best []int
	ends := make([][]int, len(of))
	for i, n := range of {
		if n < 0 {
			continue
		}
		for j := range i {
			if of[j] >= 0 && of[j] < n && earlier(ends[j], ends[i]) {
				ends[i] = ends[j]
			}
		}
		ends[i] = append(slices.Clone(ends[i]), i)
		if earlier(ends[i], best) {
			best = ends[i]
		}
	}
	return best
}

// earlier reports whether a row is longer than another one, or as long with earlier places.
func earlier(a, b []int) bool {
	return len(a) > len(b) || len(a) == len(b) && slices.Compare(a, b) < 0
}

// wantPatched does an edit by building the tree anew; false if it cannot be done.
func wantPatched(t impl.Tree, e impl.Edit, way []int) (impl.Tree, bool) {
	if len(way) > 0 {
		if way[0] < 0 || way[0] >= len(t.Kids) {
			return t, false
		}
		kid, ok := wantPatched(t.Kids[way[0]], e, way[1:])
		t.Kids = slices.Concat(t.Kids[:way[0]], []impl.Tree{kid}, t.Kids[way[0]+1:])
		return t, ok
	}
	isText, many := t.Tag == -1, len(t.Kids)
	isKid := !isText && 0 <= e.At && e.At < many
	var others []impl.Prop
	for _, p := range t.Props {
		if p.Name != e.At {
			others = append(others, p)
		}
	}
	switch e.Kind {
	case impl.EditAll:
		return e.Tree, impl.TreeOk(e.Tree)
	case impl.EditText:
		t.Text = e.Val.Text
		return t, isText && e.Val.Kind == impl.ValText
	case impl.EditProp:
		t.Props = append(others, propOf(e.At, e.Val))
		slices.SortFunc(t.Props, func(a, b impl.Prop) int { return a.Name - b.Name })
		return t, !isText
	case impl.EditDrop:
		ok := len(others) < len(t.Props)
		t.Props = others
		return t, ok
	case impl.EditMake:
		if isText || e.At < 0 || e.At > many || !impl.TreeOk(e.Tree) {
			return t, false
		}
		t.Kids = slices.Concat(t.Kids[:e.At], []impl.Tree{e.Tree}, t.Kids[e.At:])
		return t, true
	case impl.EditGone, impl.EditMove:
		if !isKid {
			return t, false
		}
		left := slices.Concat(t.Kids[:e.At], t.Kids[e.At+1:])
		if e.Kind == impl.EditMove {
			if e.To < 0 || e.To >= many {
				return t, false
			}
			left = slices.Concat(left[:e.To], []impl.Tree{t.Kids[e.At]}, left[e.To:])
		}
		t.Kids = left
		return t, true
	}
	return t, false
}

func wantAllPatched(t impl.Tree, list []impl.Edit) (impl.Tree, bool) {
	ok := impl.TreeOk(t) && len(list) <= 2000
	for _, e := range list {
		if ok {
			t, ok = wantPatched(t, e, e.Way)
		}
	}
	if !ok || !impl.TreeOk(t) {
		return impl.Tree{}, false
	}
	return t, true
}

// checkEdits checks the edits of two trees, that they do what they are for, and their numbers.
func checkEdits(t *testing.T, a, b impl.Tree) {
	t.Helper()
	list, want := impl.TreeEdits(a, b), wantEdits(a, b)
	if !same(list, want) {
		t.Errorf("TreeEdits(%s, %s) = %v, not %v", brief(a), brief(b), list, want)
	}
	if out, ok := impl.TreePatched(a, list); !ok || !same(out, b) {
		t.Errorf("TreePatched(%s, %v) = %s, %v, not %s", brief(a), list, brief(out), ok, brief(b))
	}
	for kind := range 7 {
		many := 0
		for _, e := range want {
			many += truth(e.Kind == kind).Num
		}
		checkMoves(t, a, b, kind, many)
	}
}

func checkMoves(t *testing.T, a, b impl.Tree, kind, want int) {
	t.Helper()
	if many := impl.TreeMoves(a, b, kind); many != want {
		t.Errorf("TreeMoves(%s, %s, %d) = %d, not %d", brief(a), brief(b), kind, many, want)
	}
}

func checkEditList(t *testing.T, a, b string, want ...impl.Edit) {
	t.Helper()
	if list := impl.TreeEdits(read(a), read(b)); !same(list, want) {
		t.Errorf("TreeEdits(%s, %s) = %v, not %v", a, b, list, want)
	}
	checkEdits(t, read(a), read(b))
}

func checkPatched(t *testing.T, from, to string, list ...impl.Edit) {
	t.Helper()
	if out, ok := impl.TreePatched(read(from), list); !ok || impl.TreeText(out) != to {
		t.Errorf("TreePatched(%s, %v) = %s, %v, not %s", from, list, brief(out), ok, to)
	}
}

func checkUnpatched(t *testing.T, a impl.Tree, list ...impl.Edit) {
	t.Helper()
	if out, ok := impl.TreePatched(a, list); ok || !same(out, impl.Tree{}) {
		t.Errorf("TreePatched(%s, %v) = %s, %v", brief(a), list, brief(out), ok)
	}
}

// changed returns a valid tree that has most of what a valid tree has, turned round, taken away, changed and made.
func changed(r *rand.Rand, t impl.Tree) impl.Tree {
	if t.Tag == impl.TagText {
		if r.IntN(3) == 0 {
			t.Text = impl.ValShow(randomValue(r))
		}
		return t
	}
	var props []impl.Prop
	for name := range 4 {
		at := slices.IndexFunc(t.Props, func(p impl.Prop) bool { return p.Name == name })
		switch n := r.IntN(6); {
		case n == 0:
			props = append(props, propOf(name, randomValue(r)))
		case n > 1 && at >= 0:
			props = append(props, t.Props[at])
		}
	}
	t.Props = props
	kids := slices.Clone(t.Kids)
	switch r.IntN(5) {
	case 0:
		r.Shuffle(len(kids), func(i, j int) { kids[i], kids[j] = kids[j], kids[i] })
	case 1:
		slices.Reverse(kids)
	case 2:
		if len(kids) > 1 {
			i, j := r.IntN(len(kids)), r.IntN(len(kids))
			kids[i], kids[j] = kids[j], kids[i]
		}
	}
	t.Kids = nil
	for _, kid := range kids {
		if r.IntN(6) == 0 {
			t.Kids = append(t.Kids, elem(r.IntN(3), impl.NoKey, word("a")))
		}
		if r.IntN(6) > 0 {
			t.Kids = append(t.Kids, changed(r, kid))
		}
	}
	return keysApart(r, t)
}

// keysApart gives some Kids another key, and none to those that have one twice.
func keysApart(r *rand.Rand, t impl.Tree) impl.Tree {
	had := map[int]bool{}
	for i, kid := range t.Kids {
		if kid.Tag >= 0 && r.IntN(8) == 0 {
			t.Kids[i].Key = r.IntN(6) - 1
		}
		key := t.Kids[i].Key
		if had[key] {
			t.Kids[i].Key = impl.NoKey
		}
		had[key] = true
	}
	return t
}

// eachTwoTrees calls with random valid trees, most of which have much in common.
func eachTwoTrees(many int, visit func(r *rand.Rand, a, b impl.Tree)) {
	r := rand.New(rand.NewPCG(8, 20))
	for i := range many {
		parts := 1 + r.IntN(14)
		if i%8 == 0 {
			parts = 1 + r.IntN(120)
		}
		a := randomTree(r, parts, 24)
		b := changed(r, a)
		if r.IntN(6) == 0 {
			b = changed(r, b)
		}
		if r.IntN(10) == 0 {
			b = randomTree(r, parts, 24)
		}
		if impl.TreeOk(b) {
			visit(r, a, b)
		}
	}
}

func invalidTrees() []impl.Tree {
	in := elem(0, impl.NoKey, word("a"))
	in.Kids[0] = in
	return []impl.Tree{{Tag: -1}, {Tag: 5, Key: -1}, {Tag: -2, Key: -1}, word("A"), elem(0, 100), elem(0, -2), flat(201), nested(25, word("a")), elem(0, -1, elem(1, 3), elem(2, 3)), withProps(elem(0, -1), propOf(4, none())), withProps(elem(0, -1), propOf(1, none()), propOf(1, none())), elem(1, -1, word("abcdefghijklm")), in}
}

func TestEditConstants(t *testing.T) {
	got := []int{impl.MaxEdits, impl.EditAll, impl.EditText, impl.EditProp, impl.EditDrop, impl.EditGone, impl.EditMake, impl.EditMove}
	if want := []int{2000, 0, 1, 2, 3, 4, 5, 6}; !slices.Equal(got, want) {
		t.Errorf("the constants are %v, not %v", got, want)
	}
}

func TestEditsOfOtherTagsAndKeys(t *testing.T) {
	for _, s := range [][2]string{{"(t0)", "(t1)"}, {"(t0 k1)", "(t0 k2)"}, {"(t0)", "(t0 k2 (t1))"}, {"(t0 k3)", "(t0)"}, {"'a'", "(t0)"}, {"(t0 'a')", "'a'"}} {
		checkEditList(t, s[0], s[1], impl.Edit{Kind: impl.EditAll, Tree: read(s[1])})
	}
	// Below the whole tree, parts of other tags or keys are no partners.
	checkEditList(t, "(t0 (t1))", "(t0 (t2))", impl.Edit{Kind: impl.EditGone}, impl.Edit{Kind: impl.EditMake, Tree: read("(t2)")})
	checkEditList(t, "(t0 (t1 k1))", "(t0 (t1 k2))", impl.Edit{Kind: impl.EditGone}, impl.Edit{Kind: impl.EditMake, Tree: read("(t1 k2)")})
}

func TestEditsOfTexts(t *testing.T) {
	is := func(s string, way ...int) impl.Edit {
		return impl.Edit{Kind: impl.EditText, Way: way, Val: impl.Value{Kind: impl.ValText, Text: s}}
	}
	checkEditList(t, "'a'", "'b'", is("b"))
	checkEditList(t, "'a'", "''", is(""))
	checkEditList(t, "'7'", "'-7'", is("-7"))
	checkEditList(t, "'a'", "'a'")
	checkEditList(t, "(t0 'a' 'b' (t1 'c'))", "(t0 'b' 'c' (t1 'd'))", is("b", 0), is("c", 1), is("d", 2, 0))
	checkEditList(t, "(t0 'a' 'b')", "(t0 'b')", impl.Edit{Kind: impl.EditGone, At: 1}, is("b", 0))
}

func TestEditsOfProps(t *testing.T) {
	checkEditList(t, "(t0 p0=1 p1=2 p3=-)", "(t0 p1='2' p2=5 p3=-)", impl.Edit{Kind: impl.EditDrop}, impl.Edit{Kind: impl.EditProp, At: 1, Val: text("2")}, impl.Edit{Kind: impl.EditProp, At: 2, Val: num(5)})
	checkEditList(t, "(t0 p3=0)", "(t0 p0=-)", impl.Edit{Kind: impl.EditProp}, impl.Edit{Kind: impl.EditDrop, At: 3})
	checkEditList(t, "(t0 p2=-)", "(t0 p2='')", impl.Edit{Kind: impl.EditProp, At: 2, Val: text("")})
	// Those of an element come ahead of all of its Kids.
	checkEditList(t, "(t0 (t1 p0=1 'a'))", "(t0 p1=3 (t1 'b') (t2))",
		impl.Edit{Kind: impl.EditProp, At: 1, Val: num(3)},
		impl.Edit{Kind: impl.EditMake, At: 1, Tree: read("(t2)")},
		impl.Edit{Kind: impl.EditDrop, Way: []int{0}},
		impl.Edit{Kind: impl.EditText, Way: []int{0, 0}, Val: text("b")})
}

func TestEditsOfKids(t *testing.T) {
	gone := func(at int) impl.Edit { return impl.Edit{Kind: impl.EditGone, At: at} }
	made := func(at int, s string) impl.Edit {
		return impl.Edit{Kind: impl.EditMake, At: at, Tree: read(s)}
	}
	move := func(at, to int) impl.Edit { return impl.Edit{Kind: impl.EditMove, At: at, To: to} }
	checkEditList(t, "(t0 (t1) (t2) (t3))", "(t0)", gone(2), gone(1), gone(0))
	checkEditList(t, "(t0 (t1) (t2) (t3))", "(t0 (t2))", gone(2), gone(0))
	checkEditList(t, "(t0)", "(t0 (t1) (t2))", made(0, "(t2)"), made(0, "(t1)"))
	checkEditList(t, "(t0 (t1))", "(t0 (t2) (t1) (t3))", made(1, "(t3)"), made(0, "(t2)"))
	checkEditList(t, "(t0 (t1) (t2))", "(t0 (t1) (t3 'a') (t2))", made(1, "(t3 'a')"))
	checkEditList(t, "(t0 (t1 k0) (t1 k1) (t1 k2))", "(t0 (t1 k1) (t1 k2) (t1 k0))", move(0, 2))
	checkEditList(t, "(t0 (t1 k0) (t1 k1) (t1 k2))", "(t0 (t1 k2) (t1 k0) (t1 k1))", move(2, 0))
	// Both rows are as long: that with the first Kid of b stays.
	checkEditList(t, "(t0 (t1) (t2))", "(t0 (t2) (t1))", move(0, 1))
	checkEditList(t, "(t0 (t1 k0) (t1 k1) (t1 k2))", "(t0 (t1 k2) (t1 k1) (t1 k0))", move(0, 2), move(0, 1))
	// Without keys, the first ones of one tag are partners.
	checkEditList(t, "(t0 (t1 'a') (t1 'b'))", "(t0 (t1 'b') (t1 'a'))", impl.Edit{Kind: impl.EditText, Way: []int{0, 0}, Val: text("b")}, impl.Edit{Kind: impl.EditText, Way: []int{1, 0}, Val: text("a")})
	checkEditList(t, "(t0 (t1 k5 'a') (t1 'b') (t1 'c'))", "(t0 (t1 'c') (t1 k5 'a'))", gone(2), move(0, 1), impl.Edit{Kind: impl.EditText, Way: []int{0, 0}, Val: text("c")})
	checkEditList(t, "(t0 (t1 k0) (t1 k1) (t1 k2) (t2))", "(t0 (t1 k2) (t3) (t1 k0) 'y')", gone(3), gone(1), made(2, "'y'"), move(0, 1), made(1, "(t3)"))
}

func TestEditsOfEachPermutation(t *testing.T) {
	for many := range 7 {
		eachPermutation(many, func(order []int) {
			a, b := elem(0, -1), elem(0, -1)
			for i, n := range order {
				a.Kids = append(a.Kids, elem(1, i))
				b.Kids = append(b.Kids, elem(1, n))
			}
			checkEdits(t, a, b)
			checkMoves(t, a, b, impl.EditMove, many-len(longestByTrial(order)))
			if stays := longestByTrial(order); !slices.Equal(stays, wantRow(order)) {
				t.Errorf("the row of %v is %v, not %v", order, wantRow(order), stays)
			}
			if many > 3 {
				b.Kids[1], b.Kids[2] = elem(2, impl.NoKey), word("a")
				checkEdits(t, a, b)
				checkEdits(t, b, a)
			}
		})
	}
}

// longestByTrial tries all choices of some numbers for the longest rising row with the earliest places.
func longestByTrial(order []int) []int {
	var best []int
	for bits := range 1 << len(order) {
		var row []int
		for i := range order {
			if bits>>i&1 == 1 {
				row = append(row, i)
			}
		}
		rises := slices.IsSortedFunc(row, func(i, j int) int { return order[i] - order[j] })
		if rises && earlier(row, best) {
			best = row
		}
	}
	return best
}

func eachPermutation(many int, visit func(order []int)) {
	var grow func(order []int)
	grow = func(order []int) {
		if len(order) == many {
			visit(order)
			return
		}
		for n := range many {
			if !slices.Contains(order, n) {
				grow(append(slices.Clone(order), n))
			}
		}
	}
	grow(nil)
}

func TestEditsOfLargeTrees(t *testing.T) {
	r := rand.New(rand.NewPCG(8, 21))
	for range 20 {
		a, b := elem(0, -1), elem(0, -1)
		for i, n := range r.Perm(100) {
			a.Kids = append(a.Kids, elem(1, i), word("a"))
			b.Kids = append(b.Kids, elem(1, n), elem(2, impl.NoKey))
		}
		a.Kids, b.Kids = a.Kids[:199], b.Kids[:199]
		checkEdits(t, a, b)
		checkEdits(t, b, a)
	}
	checkEdits(t, flat(200), flat(1))
	checkEdits(t, flat(1), flat(200))
	checkEdits(t, nested(24, word("a")), nested(24, word("b")))
	checkEdits(t, bushy(5), bushy(4))
	checkEdits(t, fullTree(), fullTree())
}

func TestPatchedByEachKind(t *testing.T) {
	const from = "(t0 p1=1 (t1 k1 'a') 'b' (t2))"
	checkPatched(t, from, from)
	checkPatched(t, from, "'x'", impl.Edit{Kind: impl.EditAll, Tree: word("x")})
	checkPatched(t, from, "(t0 p1=1 (t1 k1 (t4 k1)) 'b' (t2))", impl.Edit{Kind: impl.EditAll, Way: []int{0, 0}, Tree: elem(4, 1)})
	for _, s := range []string{"", "x", "-1000", "az09 "} {
		checkPatched(t, from, "(t0 p1=1 (t1 k1 'a') '"+s+"' (t2))", impl.Edit{Kind: impl.EditText, Way: []int{1}, Val: text(s)})
	}
	checkPatched(t, from, "(t0 p1=7 (t1 k1 'a') 'b' (t2))", impl.Edit{Kind: impl.EditProp, At: 1, Val: num(7)})
	checkPatched(t, from, "(t0 p0=- p1=1 (t1 k1 'a') 'b' (t2))", impl.Edit{Kind: impl.EditProp})
	checkPatched(t, from, "(t0 p1=1 p3='' (t1 k1 'a') 'b' (t2))", impl.Edit{Kind: impl.EditProp, At: 3, Val: text("")})
	checkPatched(t, from, "(t0 (t1 k1 'a') 'b' (t2))", impl.Edit{Kind: impl.EditDrop, At: 1})
	checkPatched(t, from, "(t0 p1=1 'b' (t2))", impl.Edit{Kind: impl.EditGone})
	checkPatched(t, from, "(t0 p1=1 (t1 k1 'a') 'b')", impl.Edit{Kind: impl.EditGone, At: 2})
	checkPatched(t, from, "(t0 p1=1 (t1 k1) 'b' (t2))", impl.Edit{Kind: impl.EditGone, Way: []int{0}})
	checkPatched(t, from, "(t0 p1=1 (t4) (t1 k1 'a') 'b' (t2))", impl.Edit{Kind: impl.EditMake, Tree: elem(4, -1)})
	checkPatched(t, from, "(t0 p1=1 (t1 k1 'a') 'b' (t2) 'c')", impl.Edit{Kind: impl.EditMake, At: 3, Tree: word("c")})
	checkPatched(t, from, "(t0 p1=1 (t1 k1 'a') 'b' (t2 'c'))", impl.Edit{Kind: impl.EditMake, Way: []int{2}, Tree: word("c")})
	checkPatched(t, from, "(t0 p1=1 'b' (t2) (t1 k1 'a'))", impl.Edit{Kind: impl.EditMove, To: 2})
	checkPatched(t, from, "(t0 p1=1 (t2) (t1 k1 'a') 'b')", impl.Edit{Kind: impl.EditMove, At: 2})
	checkPatched(t, from, "(t0 p1=1 'b' (t1 k1 'a') (t2))", impl.Edit{Kind: impl.EditMove, At: 1, To: 0})
	checkPatched(t, from, from, impl.Edit{Kind: impl.EditMove, At: 1, To: 1})
}

func TestUnpatchedByEachKind(t *testing.T) {
	from := read("(t0 p1=1 (t1 k1 'a') 'b' (t2))")
	is := func(kind, at, to int, way ...int) impl.Edit {
		return impl.Edit{Kind: kind, At: at, To: to, Way: way, Val: text("x"), Tree: word("x")}
	}
	for _, n := range []int{math.MinInt, -2, -1, 4, 5, 1 << 32, math.MaxInt} {
		checkUnpatched(t, from, is(impl.EditGone, n, 0))
		checkUnpatched(t, from, is(impl.EditMake, n, 0))
		checkUnpatched(t, from, is(impl.EditMove, n, 0))
		checkUnpatched(t, from, is(impl.EditMove, 0, n))
		checkUnpatched(t, from, is(impl.EditDrop, n, 0))
		checkUnpatched(t, from, is(impl.EditProp, n, 0))
		for kind := range 7 {
			checkUnpatched(t, from, is(kind, 0, 0, n))
			checkUnpatched(t, from, is(kind, 0, 0, 0, n))
			checkUnpatched(t, from, is(kind, 0, 0, 1, 0))
		}
	}
	checkUnpatched(t, from, is(impl.EditGone, 3, 0))
	checkUnpatched(t, from, is(impl.EditMove, 3, 0))
	checkUnpatched(t, from, is(impl.EditMove, 0, 3))
	checkUnpatched(t, from, is(impl.EditDrop, 0, 0))
	checkUnpatched(t, from, is(impl.EditText, 0, 0))
	checkUnpatched(t, from, is(impl.EditText, 0, 0, 2))
	for kind := impl.EditProp; kind <= impl.EditMove; kind++ {
		checkUnpatched(t, from, is(kind, 0, 0, 1))
		checkUnpatched(t, word("a"), is(kind, 0, 0))
		checkUnpatched(t, elem(0, -1, word("a")), is(kind, 0, 0, 0))
	}
	for _, kind := range []int{impl.EditGone, impl.EditMove, impl.EditDrop} {
		checkUnpatched(t, elem(0, -1), is(kind, 0, 0))
	}
	for _, kind := range []int{math.MinInt, -1, 7, 8, math.MaxInt} {
		checkUnpatched(t, from, is(kind, 0, 0))
		checkUnpatched(t, word("a"), is(kind, 0, 0))
	}
	for _, v := range []impl.Value{none(), num(0), num(7), {Kind: 3, Text: "a"}, {Kind: -1}} {
		checkUnpatched(t, from, impl.Edit{Kind: impl.EditText, Way: []int{1}, Val: v})
	}
	for _, s := range []string{"A", "--1", "-0", "01 -", "abcdefghijklm", "-1001"} {
		checkUnpatched(t, from, impl.Edit{Kind: impl.EditText, Way: []int{1}, Val: text(s)})
	}
	for _, v := range invalidValues() {
		checkUnpatched(t, from, impl.Edit{Kind: impl.EditProp, At: 1, Val: v})
	}
}

// What an edit does not need is not asked.
func TestPatchedByEditsWithMoreThanTheyNeed(t *testing.T) {
	const from = "(t0 p1=1 (t1 k1 'a') 'b' (t2))"
	more := impl.Edit{At: 1, To: -7, Val: impl.Value{Kind: 9, Num: 5000, Text: "A"}, Tree: flat(300)}
	with := func(kind int) impl.Edit {
		e := more
		e.Kind = kind
		return e
	}
	checkPatched(t, from, "(t0 (t1 k1 'a') 'b' (t2))", with(impl.EditDrop))
	checkPatched(t, from, "(t0 p1=1 (t1 k1 'a') (t2))", with(impl.EditGone))
	e := with(impl.EditProp)
	e.Val = num(4)
	checkPatched(t, from, "(t0 p1=4 (t1 k1 'a') 'b' (t2))", e)
	e = with(impl.EditMove)
	e.To = 2
	checkPatched(t, from, "(t0 p1=1 (t1 k1 'a') (t2) 'b')", e)
	e = with(impl.EditMake)
	e.Tree = elem(3, -1)
	checkPatched(t, from, "(t0 p1=1 (t1 k1 'a') (t3) 'b' (t2))", e)
	e = with(impl.EditAll)
	e.Tree = elem(3, -1)
	checkPatched(t, from, "(t3)", e)
	e = with(impl.EditText)
	e.Way, e.Val = []int{1}, impl.Value{Kind: impl.ValText, Num: 77, Text: "c"}
	checkPatched(t, from, "(t0 p1=1 (t1 k1 'a') 'c' (t2))", e)
}

// Only behind the last edit there must be a valid tree.
func TestPatchedByWayOfTreesThatAreNotValid(t *testing.T) {
	const from = "(t0 (t1 k1) 'b')"
	twice := impl.Edit{Kind: impl.EditMake, Tree: elem(2, 1)}
	checkUnpatched(t, read(from), twice)
	checkPatched(t, from, "(t0 (t2 k1) 'b')", twice, impl.Edit{Kind: impl.EditGone, At: 1})
	long := impl.Edit{Kind: impl.EditText, Way: []int{1}, Val: text("ABC")}
	checkUnpatched(t, read(from), long)
	checkPatched(t, from, "(t0 (t1 k1) 'c')", long, impl.Edit{Kind: impl.EditText, Way: []int{1}, Val: text("c")})
	for _, name := range []int{math.MinInt, -1, 4, math.MaxInt} {
		beyond := impl.Edit{Kind: impl.EditProp, At: name, Val: num(5000)}
		checkUnpatched(t, read(from), beyond)
		checkPatched(t, from, "(t0 p0=- p3=- (t1 k1) 'b')", impl.Edit{Kind: impl.EditProp, At: 3}, beyond, impl.Edit{Kind: impl.EditProp, At: 0}, beyond, impl.Edit{Kind: impl.EditDrop, At: name})
	}
	many := impl.Edit{Kind: impl.EditMake, Tree: flat(200)}
	checkUnpatched(t, read(from), many)
	checkPatched(t, from, from, many, many, impl.Edit{Kind: impl.EditGone}, impl.Edit{Kind: impl.EditGone})
	deep := impl.Edit{Kind: impl.EditMake, Way: []int{0}, Tree: nested(24, elem(0, -1))}
	checkUnpatched(t, read(from), deep)
	checkPatched(t, from, "(t0 (t1 k1 'x') 'b')", deep, impl.Edit{Kind: impl.EditAll, Way: []int{0, 0}, Tree: word("x")})
	// A text takes nothing that an element takes, also if it goes again.
	for _, two := range [][2]int{{impl.EditMake, impl.EditGone}, {impl.EditProp, impl.EditDrop}, {impl.EditMake, impl.EditAll}, {impl.EditProp, impl.EditAll}} {
		first, second := impl.Edit{Kind: two[0], Way: []int{1}, Tree: word("x")}, impl.Edit{Kind: two[1], Way: []int{1}, Tree: word("x")}
		checkUnpatched(t, read(from), first, second)
	}
	// But each tree that is made must be valid, also if it goes again.
	for _, bad := range append(invalidTrees(), impl.Tree{Tag: 9}) {
		checkUnpatched(t, read(from), impl.Edit{Kind: impl.EditMake, Tree: bad}, impl.Edit{Kind: impl.EditGone})
		checkUnpatched(t, read(from), impl.Edit{Kind: impl.EditAll, Tree: bad}, impl.Edit{Kind: impl.EditAll, Tree: word("a")})
	}
}

func TestPatchedByMaxEdits(t *testing.T) {
	list := slices.Repeat([]impl.Edit{{Kind: impl.EditProp, At: 1, Val: num(3)}}, 4000)
	checkPatched(t, "(t0)", "(t0 p1=3)", list[:1999]...)
	checkPatched(t, "(t0)", "(t0 p1=3)", list[:2000]...)
	checkUnpatched(t, elem(0, -1), list[:2001]...)
	checkUnpatched(t, elem(0, -1), list[:2002]...)
	checkUnpatched(t, elem(0, -1), list...)
	make200 := slices.Repeat([]impl.Edit{{Kind: impl.EditMake, Tree: flat(200)}}, 2000)
	checkUnpatched(t, elem(0, -1), make200...)
	deeper := make([]impl.Edit, 2000)
	for i := range deeper {
		deeper[i] = impl.Edit{Kind: impl.EditMake, Way: make([]int, i), Tree: elem(0, -1)}
	}
	checkUnpatched(t, elem(0, -1), deeper...)
	checkPatched(t, "(t0)", "'a'", append(deeper[:1999:1999], impl.Edit{Kind: impl.EditAll, Tree: word("a")})...)
}

func TestEditsOfTreesThatAreNotValid(t *testing.T) {
	for _, bad := range invalidTrees() {
		for _, good := range []impl.Tree{word("a"), fullTree(), elem(0, -1)} {
			for _, two := range [][2]impl.Tree{{bad, good}, {good, bad}, {bad, bad}} {
				if list := impl.TreeEdits(two[0], two[1]); len(list) > 0 {
					t.Errorf("TreeEdits of what is no tree = %v", list)
				}
				for _, kind := range []int{-1, 0, 1, 6, 7} {
					if many := impl.TreeMoves(two[0], two[1], kind); many != -1 {
						t.Errorf("TreeMoves of what is no tree = %d", many)
					}
				}
			}
		}
		checkUnpatched(t, bad)
		checkUnpatched(t, bad, impl.Edit{Kind: impl.EditAll, Tree: word("a")})
	}
	for _, kind := range []int{math.MinInt, -2, -1, 7, 8, math.MaxInt} {
		checkMoves(t, fullTree(), fullTree(), kind, -1)
		checkMoves(t, word("a"), elem(0, -1), kind, -1)
	}
}

// randomEdit returns an edit that may be done or not.
func randomEdit(r *rand.Rand, t impl.Tree) impl.Edit {
	ways := waysOf(t)
	way := slices.Clone(ways[r.IntN(len(ways))])
	if r.IntN(12) == 0 {
		way = append(way, r.IntN(4)-1)
	}
	part, ok := impl.TreeAt(t, way)
	many := len(part.Kids)
	if !ok {
		many = 1
	}
	e := impl.Edit{Kind: r.IntN(7), Way: way, At: r.IntN(many + 2), To: r.IntN(many + 2), Val: randomValue(r), Tree: randomTree(r, 1+r.IntN(4), 5)}
	if part.Tag == impl.TagText && r.IntN(8) > 0 {
		e.Kind = impl.EditText
	}
	if e.Kind == impl.EditAll && r.IntN(3) > 0 {
		e.Kind = impl.EditProp
	}
	return e
}

func TestPatchedByRandomEdits(t *testing.T) {
	r := rand.New(rand.NewPCG(8, 22))
	found := map[bool]int{}
	for range 20000 {
		a := randomTree(r, 1+r.IntN(20), 24)
		var list []impl.Edit
		now := a
		for range r.IntN(5) {
			e := randomEdit(r, now)
			list = append(list, e)
			now, _ = wantPatched(now, e, e.Way)
		}
		out, ok := impl.TreePatched(a, list)
		want, wantOk := wantAllPatched(a, list)
		found[wantOk]++
		if ok != wantOk || !same(out, want) {
			t.Errorf("TreePatched(%s, %v) = %s, %v, not %s, %v", brief(a), list, brief(out), ok, brief(want), wantOk)
		}
	}
	if found[true] < 2000 || found[false] < 2000 {
		t.Errorf("%v edits can be done", found)
	}
}

func TestEditsChangeAndShareNothing(t *testing.T) {
	eachTwoTrees(600, func(_ *rand.Rand, a, b impl.Tree) {
		textA, textB := wantText(a), wantText(b)
		list := impl.TreeEdits(a, b)
		out, _ := impl.TreePatched(a, list)
		checkUnshared(t, list, a, b)
		checkUnshared(t, out, a, b, list)
		impl.TreeMoves(a, b, impl.EditMove)
		if wantText(a) != textA || wantText(b) != textB || !same(list, impl.TreeEdits(a, b)) {
			t.Errorf("%s and %s, or their edits, are other ones now", textA, textB)
		}
	})
	// One tree in two edits, a way and a tree with spare capacity.
	a := elem(0, -1, make([]impl.Tree, 0, 5)...)
	made := fullTree()
	way := append(make([]int, 0, 5), 0)
	list := []impl.Edit{{Kind: impl.EditMake, Tree: made}, {Kind: impl.EditMake, At: 1, Tree: made}, {Kind: impl.EditAll, Way: way, Tree: made}, {Kind: impl.EditGone, At: 1}}
	out, ok := impl.TreePatched(a, list)
	if !ok {
		t.Errorf("TreePatched(%s, %v) is false", brief(a), list)
	}
	checkUnshared(t, out, a, list)
	checkSame(t, "the tree", made, fullTree())
	checkUnshared(t, impl.TreeEdits(word("a"), made), made)
	checkUnshared(t, impl.TreeEdits(elem(0, -1), elem(0, -1, made, made.Kids[1])), made)
}

func TestPromise26EditsMakeATreeTheOtherOne(t *testing.T) {
	eachTwoTrees(5000, func(_ *rand.Rand, a, b impl.Tree) {
		checkEdits(t, a, b)
		checkEdits(t, b, a)
	})
}

func TestPromise27ByNoEditsNothingIsAnotherOne(t *testing.T) {
	eachTwoTrees(2000, func(r *rand.Rand, a, b impl.Tree) {
		for _, none := range [][]impl.Edit{nil, {}} {
			if out, ok := impl.TreePatched(a, none); !ok || !same(out, a) {
				t.Errorf("TreePatched(%s, no edits) = %s, %v", brief(a), brief(out), ok)
			}
		}
		list := impl.TreeEdits(a, b)
		for range 3 {
			list = append(list, randomEdit(r, b))
			if out, ok := impl.TreePatched(a, list); ok && !impl.TreeOk(out) {
				t.Errorf("TreePatched(%s, %v) = %s is not valid", brief(a), list, brief(out))
			}
		}
	})
}

func TestPromise28ATreeNeedsNoEditsToBeItself(t *testing.T) {
	check := func(a impl.Tree) {
		if list := impl.TreeEdits(a, a); len(list) > 0 {
			t.Errorf("TreeEdits(%s, itself) = %v", brief(a), list)
		}
		for kind := range 7 {
			checkMoves(t, a, a, kind, 0)
		}
	}
	check(fullTree())
	check(flat(200))
	check(elem(0, -1, elem(1, -1), elem(1, -1), word("a"), word("a"), elem(1, -1)))
	eachRandomTree(func(_ *rand.Rand, a impl.Tree) { check(a) })
}

func TestPromise102NoFewerPartsCanMove(t *testing.T) {
	r := rand.New(rand.NewPCG(8, 23))
	for range 2000 {
		order := r.Perm(r.IntN(11))
		a, b := elem(0, -1), elem(0, -1)
		for i, n := range order {
			a.Kids = append(a.Kids, elem(i%5, i, word("a")))
			b.Kids = append(b.Kids, elem(n%5, n, word("b")))
		}
		checkMoves(t, a, b, impl.EditMove, len(order)-len(longestByTrial(order)))
		for _, kind := range []int{impl.EditAll, impl.EditGone, impl.EditMake} {
			checkMoves(t, a, b, kind, 0)
		}
	}
}
