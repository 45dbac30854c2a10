package tests

import (
	"math"
	"math/rand/v2"
	"regexp"
	"slices"
	"strconv"
	"strings"
	"sync"
	"testing"

	"loop.example/drawnanew/impl"
)

// word returns a text.
func word(s string) impl.Tree { return impl.Tree{Tag: impl.TagText, Key: impl.NoKey, Text: s} }

// elem returns an element.
func elem(tag, key int, kids ...impl.Tree) impl.Tree {
	return impl.Tree{Tag: tag, Key: key, Kids: kids}
}

func withProps(t impl.Tree, props ...impl.Prop) impl.Tree {
	t.Props = props
	return t
}

func propOf(name int, v impl.Value) impl.Prop { return impl.Prop{Name: name, Val: v} }

// flat returns a tree of so many parts, all of them but the first one empty texts.
func flat(parts int) impl.Tree {
	t := elem(0, impl.NoKey)
	for range parts - 1 {
		t.Kids = append(t.Kids, word(""))
	}
	return t
}

// nested returns a tree of so many parts within each other, the innermost one of which is given.
func nested(rows int, inner impl.Tree) impl.Tree {
	for range rows - 1 {
		inner = elem(0, impl.NoKey, inner)
	}
	return inner
}

// bushy returns a tree of 1 + 3 + 9 + .. parts, so many rows.
func bushy(rows int) impl.Tree {
	t := elem(rows%5, impl.NoKey)
	if rows > 1 {
		t.Kids = []impl.Tree{bushy(rows - 1), bushy(rows - 1), bushy(rows - 1)}
	}
	return t
}

// fullTree has each kind of part, key and value; some of its slices have spare capacity.
func fullTree() impl.Tree {
	inner := withProps(elem(4, 0, word("a"), word("a"), elem(0, impl.NoKey)), propOf(0, num(-1000)), propOf(1, num(0)), propOf(2, text("")), propOf(3, text("abc 0123 xyz")))
	kids := make([]impl.Tree, 0, 9)
	kids = append(kids, word(""), inner, word("-1000"), elem(1, 99, elem(2, 7, elem(3, 7))), word("abcdefghijkl"), elem(0, 7))
	return withProps(elem(2, 50, kids...), append(make([]impl.Prop, 0, 5), propOf(1, none()), propOf(3, num(1000)))...)
}

const fullText = "(t2 k50 p1=- p3=1000 '' (t4 k0 p0=-1000 p1=0 p2='' p3='abc 0123 xyz' 'a' 'a' (t0)) '-1000' (t1 k99 (t2 k7 (t3 k7))) 'abcdefghijkl' (t0 k7))"

// brief returns the beginning of a tree's text, also of one that is not valid, for messages.
func brief(t impl.Tree) string {
	s := wantText(t)
	return s[:min(len(s), 200)]
}

// countOf counts parts that may be not valid.
func countOf(t impl.Tree) int {
	many := 1
	for _, kid := range t.Kids {
		many += countOf(kid)
	}
	return many
}

// checkTree checks TreeOk, and what the other functions return of a tree that is valid or not.
func checkTree(t *testing.T, what string, tree impl.Tree, want bool) {
	t.Helper()
	if impl.TreeOk(tree) != want {
		t.Errorf("%s: TreeOk is %v of %s", what, !want, brief(tree))
	}
	if !want && impl.TreeSize(tree) != -1 || want && impl.TreeSize(tree) != countOf(tree) {
		t.Errorf("%s: TreeSize is %d of %s", what, impl.TreeSize(tree), brief(tree))
	}
	if (impl.TreeText(tree) != "") != want {
		t.Errorf("%s: TreeText is %.200q of %s", what, impl.TreeText(tree), brief(tree))
	}
	part, ok := impl.TreeAt(tree, nil)
	if ok != want || want && !same(part, tree) || !want && !same(part, impl.Tree{}) {
		t.Errorf("%s: TreeAt is %s, %v of %s", what, brief(part), ok, brief(tree))
	}
}

// checkPart checks a part alone and in a tree.
func checkPart(t *testing.T, what string, part impl.Tree, want bool) {
	t.Helper()
	checkTree(t, what, part, want)
	checkTree(t, what+" in an element", elem(3, 5, word("a"), part), want)
	checkTree(t, what+" deep in an element", elem(3, 5, elem(3, 6, elem(0, impl.NoKey), part, word("b"))), want)
}

// randomTree returns a random valid tree of so many parts, with room for as many rows.
func randomTree(r *rand.Rand, parts, rows int) impl.Tree {
	if parts == 1 && r.IntN(2) == 0 {
		return word(impl.ValShow(randomValue(r)))
	}
	t := elem(r.IntN(5), impl.NoKey)
	for name := range 4 {
		if r.IntN(3) == 0 {
			t.Props = append(t.Props, propOf(name, randomValue(r)))
		}
	}
	keys := r.Perm(100)
	for left := parts - 1; left > 0; {
		many := 1
		if rows > 2 {
			many += r.IntN(left)
		}
		kid := randomTree(r, many, rows-1)
		if kid.Tag != impl.TagText && r.IntN(2) == 0 {
			kid.Key = keys[len(t.Kids)%100]
		}
		if len(t.Kids) >= 100 {
			kid.Key = impl.NoKey
		}
		t.Kids = append(t.Kids, kid)
		left -= many
	}
	return t
}

var allValues = sync.OnceValue(validValues)

func randomValue(r *rand.Rand) impl.Value {
	all := allValues()
	return all[r.IntN(len(all))]
}

// eachRandomTree calls with random valid trees of all sizes.
func eachRandomTree(visit func(r *rand.Rand, tree impl.Tree)) {
	r := rand.New(rand.NewPCG(4, 11))
	for i := range 1200 {
		parts := 1 + r.IntN(12)
		if i%4 == 0 {
			parts = 1 + r.IntN(200)
		}
		visit(r, randomTree(r, parts, 24))
	}
}

// waysOf returns the ways to all parts of a tree.
func waysOf(t impl.Tree) [][]int {
	list := [][]int{nil}
	for i, kid := range t.Kids {
		for _, way := range waysOf(kid) {
			list = append(list, append([]int{i}, way...))
		}
	}
	return list
}

// partAt returns the part at a way that is there.
func partAt(t impl.Tree, way []int) impl.Tree {
	if len(way) == 0 {
		return t
	}
	return partAt(t.Kids[way[0]], way[1:])
}

// wantText joins the text of a tree from those of its parts.
func wantText(t impl.Tree) string {
	if t.Tag == impl.TagText {
		return "'" + t.Text + "'"
	}
	list := []string{"(t" + strconv.Itoa(t.Tag)}
	if t.Key >= 0 {
		list = append(list, "k"+strconv.Itoa(t.Key))
	}
	for _, p := range t.Props {
		shown := "-"
		if p.Val.Kind == impl.ValNum {
			shown = strconv.Itoa(p.Val.Num)
		} else if p.Val.Kind == impl.ValText {
			shown = "'" + p.Val.Text + "'"
		}
		list = append(list, "p"+strconv.Itoa(p.Name)+"="+shown)
	}
	for _, kid := range t.Kids {
		list = append(list, wantText(kid))
	}
	return strings.Join(list, " ") + ")"
}

func TestTreeConstants(t *testing.T) {
	got := []int{impl.MaxRows, impl.MaxKeys, impl.MaxText, impl.TagText, impl.NoKey}
	if want := []int{24, 100, 8000, -1, -1}; !slices.Equal(got, want) {
		t.Errorf("the constants are %v, not %v", got, want)
	}
}

func TestTreeOkOfNumbersOfParts(t *testing.T) {
	for _, parts := range []int{1, 2, 3, 100, 198, 199, 200, 201, 202, 400, 1000} {
		checkTree(t, "a flat tree", flat(parts), parts <= 200)
	}
	for below := 190; below <= 215; below++ {
		checkTree(t, "a tree in an element", elem(1, 1, flat(below)), below <= 199)
		checkTree(t, "parts in two elements", elem(1, 1, flat(100), flat(below-100)), below <= 199)
		checkTree(t, "parts in two elements and behind them", elem(1, 1, flat(below-100), flat(90), word("")), below-8 <= 200)
	}
	for rows := range 7 {
		checkTree(t, "a bushy tree", bushy(rows+1), rows < 5)
	}
}

func TestTreeOkOfRows(t *testing.T) {
	for rows := 1; rows <= 30; rows++ {
		checkTree(t, "a text in so many rows", nested(rows, word("a")), rows <= 24)
		checkTree(t, "an element in so many rows", nested(rows, elem(4, 3)), rows <= 24)
		checkTree(t, "rows beside others", elem(0, 1, word(""), nested(rows, word("")), nested(3, word(""))), rows <= 23)
		checkTree(t, "rows behind others", elem(0, 1, nested(22, word("")), nested(rows, word(""))), rows <= 23)
	}
	checkTree(t, "very many rows", nested(5000, word("a")), false)
}

func TestTreeOkOfTexts(t *testing.T) {
	for _, v := range validValues() {
		checkPart(t, "what a valid value shows", word(impl.ValShow(v)), true)
	}
	for _, s := range []string{"-1", "-9", "-10", "-99", "-999", "-1000", "0", "00", "007", "1001", "999999999999", "  ", "z"} {
		checkPart(t, "a text", word(s), true)
	}
	for _, s := range []string{"-", "--1", "-0", "-00", "-01", "-1001", "-9999", "-10000", "- 1", "-1 ", " -1", "-a", "1-", "+1", "+0", "-1.0", "-0x1", "-1_0", "−1", "A", "'", "a'", "\n", "\x00", "é", "a\xff", "abcdefghijklm", "0000000000001", "-00000000001", "-9223372036854775808", strings.Repeat("-", 20)} {
		checkPart(t, "a text that no value shows", word(s), false)
	}
	for n := -1100; n <= 1100; n++ {
		if impl.TreeOk(word(strconv.Itoa(n))) != (n >= -1000) {
			t.Errorf("TreeOk of the text %d", n)
		}
	}
}

func TestTreeOkOfWhatATextHasNot(t *testing.T) {
	for _, key := range []int{math.MinInt, -2, 0, 1, 99, 100, math.MaxInt} {
		checkPart(t, "a text with a Key", impl.Tree{Tag: impl.TagText, Key: key, Text: "a"}, false)
	}
	checkPart(t, "a text with Props", withProps(word("a"), propOf(0, num(1))), false)
	checkPart(t, "a text with a zero Prop", withProps(word("a"), impl.Prop{}), false)
	checkPart(t, "a text with Kids", elem(impl.TagText, impl.NoKey, word("a")), false)
	checkPart(t, "a text with an element", elem(impl.TagText, impl.NoKey, elem(0, impl.NoKey)), false)
	empty := word("a")
	empty.Props, empty.Kids = []impl.Prop{}, []impl.Tree{}
	checkPart(t, "a text with empty slices", empty, true)
}

func TestTreeOkOfElements(t *testing.T) {
	for _, tag := range []int{math.MinInt, -3, -2, 0, 1, 4, 5, 6, 1 << 32, math.MaxInt} {
		checkPart(t, "a Tag", elem(tag, impl.NoKey), 0 <= tag && tag <= 4)
		checkPart(t, "a Tag and a Key", elem(tag, 3), 0 <= tag && tag <= 4)
	}
	for _, key := range []int{math.MinInt, -3, -2, -1, 0, 1, 98, 99, 100, 101, 1 << 32, math.MaxInt} {
		checkTree(t, "a Key", elem(1, key), -1 <= key && key <= 99)
		checkTree(t, "a Key in an element", elem(1, 5, word(""), elem(1, key)), -1 <= key && key <= 99)
	}
	for _, s := range []string{"a", " ", "0", "-1", "A"} {
		checkPart(t, "an element with a Text", impl.Tree{Tag: 1, Key: impl.NoKey, Text: s}, false)
	}
	checkPart(t, "the zero element", impl.Tree{}, true)
	empty := impl.Tree{Tag: 1, Key: impl.NoKey, Props: []impl.Prop{}, Kids: []impl.Tree{}}
	checkPart(t, "an element with empty slices", empty, true)
}

func TestTreeOkOfProps(t *testing.T) {
	check := func(want bool, names ...int) {
		t.Helper()
		e := elem(1, impl.NoKey)
		for _, name := range names {
			e.Props = append(e.Props, propOf(name, num(name%3)))
		}
		checkPart(t, "Props", e, want)
	}
	for _, names := range [][]int{{}, {0}, {3}, {0, 1}, {0, 3}, {2, 3}, {1, 2, 3}, {0, 1, 2, 3}} {
		check(true, names...)
	}
	for _, names := range [][]int{{-1}, {4}, {0, 0}, {3, 3}, {1, 0}, {0, 2, 1}, {0, 1, 4}, {-1, 0}, {0, 1, 2, 3, 3}, {0, 1, 2, 3, 4}, {math.MinInt}, {math.MaxInt}} {
		check(false, names...)
	}
	for _, v := range validValues() {
		checkPart(t, "a Prop with a valid value", withProps(elem(1, impl.NoKey), propOf(2, v)), true)
	}
	for _, v := range invalidValues() {
		checkPart(t, "a Prop with a value that is not valid", withProps(elem(1, impl.NoKey), propOf(2, v), propOf(3, num(1))), false)
		checkPart(t, "a last Prop with a value that is not valid", withProps(elem(1, impl.NoKey), propOf(0, num(1)), propOf(3, v)), false)
	}
}

func TestTreeOkOfKeysOfKids(t *testing.T) {
	check := func(want bool, keys ...int) {
		t.Helper()
		e := elem(1, 7)
		for i, key := range keys {
			e.Kids = append(e.Kids, elem(i%5, key))
		}
		checkPart(t, "Kids with keys", e, want)
	}
	for _, keys := range [][]int{{-1, -1}, {-1, 0, -1, -1}, {0, 1}, {99, 0}, {7, 50, -1, 8}, {7}} {
		check(true, keys...)
	}
	for _, keys := range [][]int{{0, 0}, {99, 99}, {5, 1, 5}, {1, -1, 1}, {1, 2, 3, 4, 4}, {4, 4, 1, 2, 3}} {
		check(false, keys...)
	}
	checkTree(t, "the same key in another element", elem(0, 3, elem(0, 3, elem(0, 3)), elem(0, 4, elem(0, 3))), true)
	checkTree(t, "the same key deep in the tree", elem(0, 1, elem(0, 2, elem(0, 3), word("a"), elem(1, 3))), false)
	many := elem(0, impl.NoKey)
	for key := range 100 {
		many.Kids = append(many.Kids, elem(0, 99-key))
	}
	checkTree(t, "all keys", many, true)
	checkTree(t, "all keys and none", elem(0, impl.NoKey, append(many.Kids, elem(0, impl.NoKey))...), true)
	checkTree(t, "all keys and one again", elem(0, impl.NoKey, append(many.Kids, elem(0, 0))...), false)
}

// The functions end for trees that are in themselves.
func TestTreesInThemselves(t *testing.T) {
	for _, many := range []int{1, 2, 7, 199, 300} {
		kids := make([]impl.Tree, many)
		for i := range kids {
			kids[i] = impl.Tree{Key: impl.NoKey, Kids: kids}
		}
		for _, tree := range []impl.Tree{kids[0], elem(0, 1, word("a"), kids[0])} {
			if impl.TreeOk(tree) || impl.TreeSize(tree) != -1 || impl.TreeText(tree) != "" {
				t.Errorf("a tree in itself, of %d Kids, is valid", many)
			}
			if part, ok := impl.TreeAt(tree, []int{0}); ok || !same(part, impl.Tree{}) {
				t.Errorf("a tree in itself, of %d Kids, has a part", many)
			}
		}
	}
}

func TestTreeText(t *testing.T) {
	for _, c := range []struct {
		tree impl.Tree
		want string
	}{
		{fullTree(), fullText},
		{word(""), "''"},
		{word(" a 1"), "' a 1'"},
		{word("-7"), "'-7'"},
		{impl.Tree{}, "(t0 k0)"},
		{elem(4, impl.NoKey), "(t4)"},
		{elem(0, 99), "(t0 k99)"},
		{elem(0, 10, word(""), word("x"), elem(1, impl.NoKey)), "(t0 k10 '' 'x' (t1))"},
		{withProps(elem(1, impl.NoKey), propOf(0, none()), propOf(3, num(0))), "(t1 p0=- p3=0)"},
		{withProps(elem(1, 2, word("b")), propOf(2, text("")), propOf(3, text("-"[:0]+"12"))), "(t1 k2 p2='' p3='12' 'b')"},
		{withProps(elem(1, impl.NoKey), propOf(1, num(-1))), "(t1 p1=-1)"},
	} {
		if s := impl.TreeText(c.tree); s != c.want {
			t.Errorf("TreeText(%s) = %q, not %q", brief(c.tree), s, c.want)
		}
		checkRead(t, c.want, c.tree)
	}
	eachRandomTree(func(_ *rand.Rand, tree impl.Tree) {
		checkTree(t, "a random tree", tree, true)
		if s := impl.TreeText(tree); s != wantText(tree) {
			t.Errorf("TreeText(%s) = %q", brief(tree), s)
		}
	})
}

func checkRead(t *testing.T, s string, want impl.Tree) {
	t.Helper()
	tree, ok := impl.TreeRead(s)
	if !ok || !same(tree, want) {
		t.Errorf("TreeRead(%.200q) = %s, %v, not %s", s, brief(tree), ok, brief(want))
	}
}

func checkUnread(t *testing.T, s string) {
	t.Helper()
	tree, ok := impl.TreeRead(s)
	if ok || !same(tree, impl.Tree{}) {
		t.Errorf("TreeRead(%.200q) = %s, %v", s, brief(tree), ok)
	}
}

func TestTreeReadOfTextsThatEndEarlyOrGoOn(t *testing.T) {
	for end := range len(fullText) {
		checkUnread(t, fullText[:end])
		if end > 0 {
			checkUnread(t, fullText[end:])
		}
	}
	for _, more := range []string{" ", ")", "'", "''", "(t0)", " (t0)", "\n", "\x00", "a", "0"} {
		checkUnread(t, fullText+more)
		checkUnread(t, "''"+more)
		checkUnread(t, more+fullText)
	}
}

func TestTreeReadOfWhatIsNoText(t *testing.T) {
	for _, s := range []string{
		"", " ", "'", "(", ")", "()", "(t", "(t)", "(t0", "t0", "(t0 ", "(t0 )", "( t0)", "(t 0)", "(T0)", "[t0]", "a", "0", "-", "'A'", "'a", "a'", "'''", "'-0'", "'-1001'", "'+1'", "'abcdefghijklm'", "'é'",
		"(t00)", "(t+1)", "(t-0)", "(t-1)", "(t-2)", "(t5)", "(t01)", "(t10)", "(t0x)", "(t99999999999999999999)",
		"(t0  k1)", "(t0 k)", "(t0 k-1)", "(t0 k01)", "(t0 k00)", "(t0 k+1)", "(t0 k100)", "(t0 k1 k1)", "(t0 k1 k2)", "(t0k1)", "(t0 K1)", "(t0 k1 )", "(t0 k18446744073709551617)",
		"(t0 p)", "(t0 p0)", "(t0 p0=)", "(t0 p0= )", "(t0 p=1)", "(t0 p0 =1)", "(t0 p0= 1)", "(t0 p0=1", "(t0 p0=1 )", "(t0 p00=1)", "(t0 p4=1)", "(t0 p-1=1)", "(t0 p+1=1)", "(t0 p0:1)", "(t0 p0==1)",
		"(t0 p0=+1)", "(t0 p0=01)", "(t0 p0=-0)", "(t0 p0=-01)", "(t0 p0=--1)", "(t0 p0=--)", "(t0 p0=1001)", "(t0 p0=-1001)", "(t0 p0=1-)", "(t0 p0=a)", "(t0 p0='A')", "(t0 p0='-1')", "(t0 p0='a)", "(t0 p0=a')", "(t0 p0='abcdefghijklm')", "(t0 p0=(t0))",
		"(t0 p0=1 p0=1)", "(t0 p1=1 p0=1)", "(t0 p0=1 k1)", "(t0 'a' k1)", "(t0 'a' p0=1)", "(t0 (t0) p0=1)", "(t0 p0=1p1=1)",
		"(t0'a')", "(t0(t0))", "(t0 (t0)(t0))", "(t0 'a''b')", "(t0  'a')", "(t0 'a'  'b')", "(t0 a)", "(t0 0)", "(t0 (t0)", "(t0))", "(t0 (t9))", "(t0 'A')", "(t0 (t0 k1) (t1 k1))", "(t0 k1)(t0 k2)", "'a''b'", "'a' 'b'",
	} {
		checkUnread(t, s)
	}
}

func TestTreeReadOfEndsOfRanges(t *testing.T) {
	checkRead(t, "(t4 k99 p3=1000)", withProps(elem(4, 99), propOf(3, num(1000))))
	checkRead(t, "(t0 k0 p0=-1000)", withProps(elem(0, 0), propOf(0, num(-1000))))
	checkRead(t, "(t0 p0='abcdefghijkl')", withProps(elem(0, impl.NoKey), propOf(0, text("abcdefghijkl"))))
	checkRead(t, wantText(flat(200)), flat(200))
	checkUnread(t, wantText(flat(201)))
	checkRead(t, wantText(nested(24, word("a"))), nested(24, word("a")))
	checkUnread(t, wantText(nested(25, word("a"))))
	checkUnread(t, wantText(nested(24, elem(0, impl.NoKey, word("")))))
}

// longTree returns a tree whose text has so many bytes, more than 300.
func longTree(bytes int) impl.Tree {
	t := elem(0, impl.NoKey)
	for left := bytes - len("(t0)"); left > 0; {
		// The least kid has 29 bytes, and the greatest one 77, with the space ahead of it.
		many := min(left, 77)
		if left > 77 && left < 77+29 {
			many = 40
		}
		kid := elem(0, impl.NoKey)
		letters := many - 29
		for name := range 4 {
			n := min(letters, 12)
			kid.Props = append(kid.Props, propOf(name, text(strings.Repeat("z", n))))
			letters -= n
		}
		t.Kids = append(t.Kids, kid)
		left -= many
	}
	return t
}

func TestTreeReadOfLongTexts(t *testing.T) {
	for _, bytes := range []int{400, 7998, 7999, 8000, 8001, 8002, 9000, 15000} {
		tree := longTree(bytes)
		checkTree(t, "a tree with a long text", tree, true)
		s := impl.TreeText(tree)
		if len(s) != bytes || s != wantText(tree) {
			t.Errorf("TreeText is %d bytes long, not %d", len(s), bytes)
		}
		if bytes <= 8000 {
			checkRead(t, s, tree)
		} else {
			checkUnread(t, s)
		}
	}
	for _, s := range []string{"(", "(t0 ", "'", " ", "(t0 k", "-", "(t0 p0=", "(t0)", "9", "(t0 p0='"} {
		checkUnread(t, strings.Repeat(s, 8000/len(s)))
		checkUnread(t, "(t0 "+strings.Repeat(s, 7900/len(s))+")")
		checkUnread(t, strings.Repeat(s, 200000/len(s)))
	}
}

const valuePattern = `(?:-?1000|-?[1-9][0-9]{0,2}|0|'[a-z0-9 ]{0,12}'|-)`

// textPattern is what a text begins with that is read as one, elemPattern what an element begins with, up to its Kids.
var (
	textPattern = regexp.MustCompile(`^'(?:[a-z0-9 ]{0,12}|-[1-9][0-9]{0,2}|-1000)'`)
	elemPattern = regexp.MustCompile(`^\(t[0-4]( k(?:[1-9][0-9]|[0-9]))?((?: p[0-3]=` + valuePattern + `)*)`)
	namePattern = regexp.MustCompile(` p([0-3])=`)
)

// readable returns what is left behind a tree's text, its key with a space ahead of it, if it has one, and true; this is told by patterns, unlike in the program.
func readable(s string) (string, string, bool) {
	if m := textPattern.FindString(s); m != "" {
		return s[len(m):], "", true
	}
	m := elemPattern.FindStringSubmatch(s)
	if m == nil {
		return s, "", false
	}
	last := ""
	for _, name := range namePattern.FindAllStringSubmatch(m[2], -1) {
		if name[1] <= last {
			return s, "", false
		}
		last = name[1]
	}
	s = s[len(m[0]):]
	var keys []string
	for strings.HasPrefix(s, " ") {
		left, key, ok := readable(s[1:])
		if !ok || key != "" && slices.Contains(keys, key) {
			return s, "", false
		}
		keys = append(keys, key)
		s = left
	}
	left, ok := strings.CutPrefix(s, ")")
	return left, m[1], ok
}

// Texts in which one byte is gone, is another one, or is more, are held against patterns.
func TestTreeReadOfChangedTexts(t *testing.T) {
	reads := 0
	check := func(s string) {
		left, _, want := readable(s)
		want = want && left == ""
		tree, ok := impl.TreeRead(s)
		if ok != want || ok && wantText(tree) != s {
			t.Errorf("TreeRead(%q) = %s, %v", s, brief(tree), ok)
		}
		if ok {
			reads++
		}
	}
	for _, s := range []string{fullText, "(t1 k10 p0=10 p2=- (t0 k1) (t0 k2 '-10'))", "(t3 p1='a 1' p2=-100 '' 'b')", "'-100'", "''"} {
		for i := range len(s) {
			check(s[:i] + s[i+1:])
			for _, b := range []string{"(", ")", "t", "k", "p", "=", "-", "'", " ", "0", "1", "2", "3", "9", "a", "A", "+"} {
				check(s[:i] + b + s[i+1:])
				check(s[:i] + b + s[i:])
			}
		}
	}
	if reads < 500 {
		t.Errorf("only %d of the texts are read", reads)
	}
}

func checkNotAt(t *testing.T, tree impl.Tree, way ...int) {
	t.Helper()
	if part, ok := impl.TreeAt(tree, way); ok || !same(part, impl.Tree{}) {
		t.Errorf("TreeAt(%s, %v) = %s, %v", brief(tree), way[:min(len(way), 30)], brief(part), ok)
	}
}

func TestTreeAt(t *testing.T) {
	for _, tree := range []impl.Tree{fullTree(), flat(200), nested(24, word("a")), bushy(5), word("a"), elem(0, 3)} {
		for _, way := range waysOf(tree) {
			part, ok := impl.TreeAt(tree, way)
			want := partAt(tree, way)
			if !ok || !same(part, want) {
				t.Errorf("TreeAt(%s, %v) = %s, %v", brief(tree), way[:min(len(way), 30)], brief(part), ok)
			}
			for _, at := range []int{math.MinInt, -2, -1, len(want.Kids), len(want.Kids) + 1, 1 << 32, math.MaxInt} {
				checkNotAt(t, tree, append(slices.Clone(way), at)...)
				checkNotAt(t, tree, append(slices.Clone(way), at, 0)...)
			}
		}
	}
	checkNotAt(t, fullTree(), 0, 0)
	checkNotAt(t, fullTree(), 3, 0, 0, 0)
	checkNotAt(t, nested(24, word("a")), make([]int, 24)...)
	checkNotAt(t, nested(24, word("a")), make([]int, 100000)...)
}

func TestTreeAtOfInvalidTrees(t *testing.T) {
	for _, bad := range []impl.Tree{elem(5, impl.NoKey), word("A"), elem(0, 100), elem(impl.TagText, impl.NoKey, word("a")), elem(-2, 1)} {
		for _, tree := range []impl.Tree{bad, elem(0, 0, word("a"), bad), elem(0, 0, word("a"), elem(0, 0, bad)), nested(20, bad)} {
			checkNotAt(t, tree)
			checkNotAt(t, tree, 0)
			checkNotAt(t, tree, 1, 0)
		}
	}
	checkNotAt(t, flat(201), 0)
	checkNotAt(t, nested(25, word("a")), 0)
	checkNotAt(t, elem(0, 0, elem(0, 1), elem(0, 1)), 0)
}

func TestTreesChangeAndShareNothing(t *testing.T) {
	tree := fullTree()
	impl.TreeOk(tree)
	impl.TreeSize(tree)
	impl.TreeText(tree)
	for _, way := range waysOf(tree) {
		before := slices.Clone(way)
		part, _ := impl.TreeAt(tree, way)
		checkUnshared(t, part, tree, way)
		if !slices.Equal(way, before) {
			t.Errorf("the way %v is %v", before, way)
		}
	}
	part, _ := impl.TreeAt(tree, []int{1})
	part.Props[0].Name, part.Kids[0].Text = 9, "other"
	checkSame(t, "the tree", tree, fullTree())
	back, _ := impl.TreeRead(fullText)
	checkUnshared(t, back, tree)
	back.Kids[1].Kids[0].Text = "other"
	checkRead(t, fullText, fullTree())
}

func TestPromise11TreesAreReadBack(t *testing.T) {
	eachRandomTree(func(_ *rand.Rand, tree impl.Tree) {
		checkRead(t, impl.TreeText(tree), tree)
	})
	for bytes := 7950; bytes <= 8000; bytes++ {
		checkRead(t, impl.TreeText(longTree(bytes)), longTree(bytes))
	}
}

func TestPromise12OnePartMoreThanTheKids(t *testing.T) {
	eachRandomTree(func(_ *rand.Rand, tree impl.Tree) {
		many := 1
		for _, kid := range tree.Kids {
			if !impl.TreeOk(kid) {
				t.Errorf("the Kid %s of a valid tree is not valid", brief(kid))
			}
			many += impl.TreeSize(kid)
		}
		if impl.TreeSize(tree) != many {
			t.Errorf("TreeSize(%s) = %d, not %d", brief(tree), impl.TreeSize(tree), many)
		}
	})
}

func TestPromise13APartMoreHasAnotherText(t *testing.T) {
	eachRandomTree(func(_ *rand.Rand, tree impl.Tree) {
		more := tree
		more.Kids = append(slices.Clone(tree.Kids), word(""))
		fits := tree.Tag != impl.TagText && countOf(tree) < 200
		checkTree(t, "a tree with a part more", more, fits)
		if fits && impl.TreeText(more) != strings.TrimSuffix(impl.TreeText(tree), ")")+" '')" {
			t.Errorf("TreeText(%s) = %.200q", brief(more), impl.TreeText(more))
		}
		if impl.TreeText(more) == impl.TreeText(tree) {
			t.Errorf("%s has the same text with a part more", brief(tree))
		}
	})
}

func TestPromise14WhatIsReadHasTheText(t *testing.T) {
	eachRandomTree(func(r *rand.Rand, tree impl.Tree) {
		s := []byte(wantText(tree))
		for range 20 {
			s[r.IntN(len(s))] = "()tkp=-' 0123456789ab"[r.IntN(21)]
			if back, ok := impl.TreeRead(string(s)); ok && (!impl.TreeOk(back) || impl.TreeText(back) != string(s)) {
				t.Errorf("TreeRead(%.200q) = %s", s, brief(back))
			}
			if _, ok := impl.TreeRead(string(s)); !ok {
				s = []byte(wantText(tree))
			}
		}
	})
}

func TestPromise15APartOfAPartIsAPart(t *testing.T) {
	eachRandomTree(func(r *rand.Rand, tree impl.Tree) {
		ways := waysOf(tree)
		way := slices.Clone(ways[r.IntN(len(ways))])
		if r.IntN(4) == 0 {
			way = append(way, r.IntN(4)-1)
		}
		whole, ok := impl.TreeAt(tree, way)
		for cut := range len(way) + 1 {
			part, first := impl.TreeAt(tree, way[:cut])
			rest, then := impl.TreeAt(part, way[cut:])
			if first && (then != ok || !same(rest, whole)) || !first && ok {
				t.Errorf("TreeAt by %v of %s is not that by the rest", way, brief(tree))
			}
		}
	})
}
