package tests

import (
	"fmt"
	"math/rand/v2"
	"regexp"
	"slices"
	"strconv"
	"strings"
	"testing"

	"loop.example/drawnanew/impl"
)

var wireWords = []string{"all", "text", "prop", "drop", "gone", "make", "move"}

func wantWay(way []int) string {
	s := ""
	for _, n := range way {
		s += fmt.Sprintf("/%d", n)
	}
	return map[bool]string{true: "/", false: s}[s == ""]
}

// wantShown is a value as in TreeText, which is that of a prop.
func wantShown(v impl.Value) string {
	s := wantText(withProps(elem(0, -1), propOf(0, v)))
	return s[len("(t0 p0=") : len(s)-1]
}

// wantBare is what an edit may have: what its kind does not need is zero.
func wantBare(e impl.Edit) impl.Edit {
	bare := impl.Edit{Kind: e.Kind, Way: e.Way}
	switch e.Kind {
	case impl.EditAll:
		bare.Tree = e.Tree
	case impl.EditText:
		bare.Val = impl.Value{Kind: impl.ValText, Text: e.Val.Text}
	case impl.EditProp:
		bare.At, bare.Val = e.At, e.Val
	case impl.EditMake:
		bare.At, bare.Tree = e.At, e.Tree
	case impl.EditMove:
		bare.At, bare.To = e.At, e.To
	default:
		bare.At = e.At
	}
	return bare
}

func wantWritten(e impl.Edit) bool {
	if e.Kind < 0 || e.Kind > 6 || len(e.Way) > 24 || !same(wantBare(e), e) {
		return false
	}
	for _, n := range append(slices.Clone(e.Way), e.At, e.To) {
		if n < 0 || n > 200 {
			return false
		}
	}
	switch e.Kind {
	case impl.EditAll, impl.EditMake:
		return impl.TreeOk(e.Tree)
	case impl.EditText:
		return impl.TreeOk(word(e.Val.Text))
	case impl.EditProp:
		return impl.ValOk(e.Val)
	}
	return true
}

func wantWire(e impl.Edit) string {
	if !wantWritten(e) {
		return ""
	}
	s := wireWords[e.Kind] + " " + wantWay(e.Way)
	switch e.Kind {
	case impl.EditAll:
		return s + " " + wantText(e.Tree)
	case impl.EditText:
		return s + " '" + e.Val.Text + "'"
	case impl.EditProp:
		return fmt.Sprint(s, " ", e.At, " ", wantShown(e.Val))
	case impl.EditMake:
		return fmt.Sprint(s, " ", e.At, " ", wantText(e.Tree))
	case impl.EditMove:
		return fmt.Sprint(s, " ", e.At, " ", e.To)
	}
	return fmt.Sprint(s, " ", e.At)
}

var (
	numberPattern = regexp.MustCompile(`^(?:0|[1-9][0-9]*)$`)
	wayPattern    = regexp.MustCompile(`^(?:/|(?:/(?:0|[1-9][0-9]*))+)$`)
	shownPattern  = regexp.MustCompile("^" + valuePattern + "$")
)

// smallNumbers reports whether those of some words that are there are at most 200.
func smallNumbers(words ...string) bool {
	return !slices.ContainsFunc(words, func(s string) bool {
		n, err := strconv.Atoi(s)
		return s != "" && (err != nil || n > 200)
	})
}

// readableLine reports whether a line is that of an edit, by patterns.
func readableLine(s string) bool {
	if len(s) > 8000 {
		return false
	}
	word, rest, _ := strings.Cut(s, " ")
	way, rest, _ := strings.Cut(rest, " ")
	if !wayPattern.MatchString(way) || strings.Count(way, "/") > 24 || !smallNumbers(strings.Split(way, "/")...) {
		return false
	}
	at, last, two := strings.Cut(rest, " ")
	isAt := numberPattern.MatchString(at) && smallNumbers(at)
	switch word {
	case "all":
		_, ok := impl.TreeRead(rest)
		return ok
	case "text":
		m := textPattern.FindString(rest)
		return m != "" && m == rest
	case "prop":
		return isAt && shownPattern.MatchString(last)
	case "drop", "gone":
		return isAt && !two
	case "make":
		_, ok := impl.TreeRead(last)
		return isAt && ok
	case "move":
		return isAt && numberPattern.MatchString(last) && smallNumbers(last)
	}
	return false
}

// checkWire checks the line of an edit, and that it is read back.
func checkWire(t *testing.T, e impl.Edit) {
	t.Helper()
	want := wantWire(e)
	s := impl.WireText(e)
	if s != want {
		t.Errorf("WireText(%v) = %.200q, not %.200q", e, s, want)
	}
	if want != "" && len(want) <= 8000 {
		if back, ok := impl.WireRead(s); !ok || !same(back, e) {
			t.Errorf("WireRead(%.200q) = %v, %v, not %v", s, back, ok, e)
		}
	}
}

func checkLineOf(t *testing.T, e impl.Edit, want string) {
	t.Helper()
	if wantWire(e) != want {
		t.Errorf("the tests' own line of %v is %q, not %q", e, wantWire(e), want)
	}
	checkWire(t, e)
}

func checkUnwritten(t *testing.T, e impl.Edit) {
	t.Helper()
	if s := impl.WireText(e); s != "" || wantWire(e) != "" {
		t.Errorf("WireText(%v) = %q, and %q by the tests", e, s, wantWire(e))
	}
}

// checkWireRead checks a line, which is that of an edit or not.
func checkWireRead(t *testing.T, s string) bool {
	t.Helper()
	want := readableLine(s)
	e, ok := impl.WireRead(s)
	if ok != want || ok && (impl.WireText(e) != s || wantWire(e) != s) || !ok && !same(e, impl.Edit{}) {
		t.Errorf("WireRead(%.200q) = %v, %v, not %v", s, e, ok, want)
	}
	return ok
}

func checkNoLineOf(t *testing.T, list ...string) {
	t.Helper()
	for _, s := range list {
		if checkWireRead(t, s) {
			t.Errorf("%.200q is read", s)
		}
	}
}

func wantLined(t impl.Tree, lines []string) (impl.Tree, int) {
	if !impl.TreeOk(t) || len(lines) > 2000 {
		return impl.Tree{}, 0
	}
	for i, s := range lines {
		if !readableLine(s) {
			return t, i
		}
		e, _ := impl.WireRead(s)
		next, ok := wantAllPatched(t, []impl.Edit{e})
		if !ok {
			return t, i
		}
		t = next
	}
	return t, len(lines)
}

func checkLined(t *testing.T, tree impl.Tree, lines ...string) {
	t.Helper()
	want, many := wantLined(tree, lines)
	if got, n := impl.WireRun(tree, lines); n != many || !same(got, want) {
		t.Errorf("WireRun(%s, %.300q) = %s, %d, not %s, %d", brief(tree), lines, brief(got), n, brief(want), many)
	}
}

func checkLinedTo(t *testing.T, from, to string, many int, lines ...string) {
	t.Helper()
	if got, n := impl.WireRun(read(from), lines); n != many || impl.TreeText(got) != to {
		t.Errorf("WireRun(%s, %.300q) = %s, %d, not %s, %d", from, lines, brief(got), n, to, many)
	}
	checkLined(t, read(from), lines...)
}

// randomWire returns a random edit that is written.
func randomWire(r *rand.Rand) impl.Edit {
	e := impl.Edit{Kind: r.IntN(7), At: r.IntN(201), To: r.IntN(201), Val: randomValue(r), Tree: randomTree(r, 1+r.IntN(9), 9)}
	for range r.IntN(5) * r.IntN(6) {
		e.Way = append(e.Way, []int{r.IntN(3), r.IntN(30), r.IntN(201)}[r.IntN(3)])
	}
	if e.Kind == impl.EditText {
		e.Val = text(impl.ValShow(e.Val))
	}
	return wantBare(e)
}

// fullEdits are one of each kind that is written, with nothing that is zero.
func fullEdits() []impl.Edit {
	way := []int{3, 200, 1}
	return []impl.Edit{
		{Kind: impl.EditAll, Way: way, Tree: fullTree()},
		{Kind: impl.EditText, Way: way, Val: text("a b")},
		{Kind: impl.EditProp, Way: way, At: 2, Val: text("a b")},
		{Kind: impl.EditDrop, Way: way, At: 2},
		{Kind: impl.EditGone, Way: way, At: 2},
		{Kind: impl.EditMake, Way: way, At: 2, Tree: fullTree()},
		{Kind: impl.EditMove, Way: way, At: 2, To: 5},
	}
}

func TestWireText(t *testing.T) {
	checkLineOf(t, impl.Edit{Kind: impl.EditAll, Tree: elem(0, -1)}, "all / (t0)")
	checkLineOf(t, impl.Edit{}, "all / (t0 k0)")
	checkLineOf(t, impl.Edit{Kind: impl.EditAll, Way: []int{0}, Tree: word("a b")}, "all /0 'a b'")
	checkLineOf(t, impl.Edit{Kind: impl.EditText, Way: []int{0, 1}, Val: text("ab")}, "text /0/1 'ab'")
	checkLineOf(t, impl.Edit{Kind: impl.EditText, Way: []int{0}, Val: text("-7")}, "text /0 '-7'")
	checkLineOf(t, impl.Edit{Kind: impl.EditText, Val: text("")}, "text / ''")
	checkLineOf(t, impl.Edit{Kind: impl.EditProp, At: 2, Val: num(-5)}, "prop / 2 -5")
	checkLineOf(t, impl.Edit{Kind: impl.EditProp, At: 2}, "prop / 2 -")
	checkLineOf(t, impl.Edit{Kind: impl.EditProp, At: 200, Val: text(" ")}, "prop / 200 ' '")
	checkLineOf(t, impl.Edit{Kind: impl.EditDrop, Way: []int{3}, At: 1}, "drop /3 1")
	checkLineOf(t, impl.Edit{Kind: impl.EditGone}, "gone / 0")
	checkLineOf(t, impl.Edit{Kind: impl.EditMake, Way: []int{1}, Tree: word("x")}, "make /1 0 'x'")
	checkLineOf(t, impl.Edit{Kind: impl.EditMove, At: 2}, "move / 2 0")
	checkLineOf(t, impl.Edit{Kind: impl.EditMove, Way: []int{200, 0, 10}, At: 0, To: 200}, "move /200/0/10 0 200")
	for _, e := range fullEdits() {
		checkWire(t, e)
	}
}

func TestWireTextOfWays(t *testing.T) {
	for _, e := range fullEdits() {
		for rows := range 28 {
			for _, n := range []int{0, 1, 10, 199, 200} {
				e.Way = slices.Repeat([]int{n}, rows)
				checkWire(t, e)
				if (impl.WireText(e) != "") != (rows <= 24) {
					t.Errorf("WireText(%v) = %.200q", e, impl.WireText(e))
				}
			}
		}
		for _, n := range beyond(0, 200) {
			for _, way := range [][]int{{n}, {n, 0, 0}, {0, 0, n}, slices.Repeat([]int{n}, 24)} {
				e.Way = way
				checkUnwritten(t, e)
			}
		}
		e.Way = make([]int, 100000)
		checkUnwritten(t, e)
	}
}

func TestWireTextOfEndsOfRanges(t *testing.T) {
	for _, e := range fullEdits() {
		for _, n := range []int{0, 1, 3, 4, 99, 100, 199, 200} {
			at, to := e, e
			at.At, to.To = n, n
			checkWire(t, at)
			checkWire(t, to)
		}
		for _, n := range beyond(0, 200) {
			at, to := e, e
			at.At, to.To = n, n
			checkUnwritten(t, at)
			checkUnwritten(t, to)
		}
		for _, kind := range beyond(0, 6) {
			e.Kind = kind
			checkUnwritten(t, e)
			checkUnwritten(t, impl.Edit{Kind: kind})
		}
	}
}

// What a kind does not need is zero.
func TestWireTextOfEachField(t *testing.T) {
	needs := map[int]string{impl.EditAll: "tree", impl.EditText: "value", impl.EditProp: "at value", impl.EditDrop: "at", impl.EditGone: "at", impl.EditMake: "at tree", impl.EditMove: "at to"}
	for _, e := range fullEdits() {
		check := func(field string, by func(e *impl.Edit)) {
			t.Helper()
			other := e
			by(&other)
			checkWire(t, other)
			if (impl.WireText(other) != "") != strings.Contains(needs[e.Kind], field) {
				t.Errorf("WireText(%v) = %.200q", other, impl.WireText(other))
			}
		}
		check("at", func(e *impl.Edit) { e.At = 1 })
		check("to", func(e *impl.Edit) { e.To = 1 })
		check("value", func(e *impl.Edit) { e.Val = text("a") })
		check("value", func(e *impl.Edit) { e.Val = text("") })
		check("tree", func(e *impl.Edit) { e.Tree = elem(1, 0) })
		check("tree", func(e *impl.Edit) { e.Tree = elem(0, 1) })
		check("tree", func(e *impl.Edit) { e.Tree = elem(0, 0, word("a")) })
		check("tree", func(e *impl.Edit) { e.Tree = withProps(elem(0, 0), propOf(0, none())) })
		check("tree", func(e *impl.Edit) { e.Tree = word("") })
		if e.Kind != impl.EditAll && e.Kind != impl.EditMake {
			check("none", func(e *impl.Edit) { e.Tree.Text = "a" })
		}
		if e.Kind != impl.EditText && e.Kind != impl.EditProp {
			check("none", func(e *impl.Edit) { e.Val.Num = 1 })
			check("none", func(e *impl.Edit) { e.Val.Kind = 1 })
		}
	}
}

func TestWireTextOfValuesAndTrees(t *testing.T) {
	for _, v := range validValues() {
		checkWire(t, impl.Edit{Kind: impl.EditProp, At: 1, Val: v})
		checkWire(t, impl.Edit{Kind: impl.EditText, Val: text(impl.ValShow(v))})
		if v.Kind != impl.ValText {
			checkUnwritten(t, impl.Edit{Kind: impl.EditText, Val: v})
		}
	}
	for _, v := range invalidValues() {
		checkUnwritten(t, impl.Edit{Kind: impl.EditProp, At: 1, Val: v})
		checkWire(t, impl.Edit{Kind: impl.EditText, Val: v})
	}
	for _, s := range []string{"-1", "-1000", "1001"} {
		checkWire(t, impl.Edit{Kind: impl.EditText, Val: text(s)})
		checkWire(t, impl.Edit{Kind: impl.EditProp, Val: text(s)})
	}
	for _, s := range []string{"-", "-0", "-01", "-1001", "A", "'", "a'b", "abcdefghijklm", "é"} {
		checkUnwritten(t, impl.Edit{Kind: impl.EditText, Val: text(s)})
	}
	for _, v := range []impl.Value{{Kind: impl.ValText, Num: 1, Text: "a"}, {Kind: 3, Text: "a"}, {Kind: -1, Text: "a"}, {Text: "a"}} {
		checkUnwritten(t, impl.Edit{Kind: impl.EditText, Val: v})
	}
	for _, bad := range invalidTrees() {
		for _, e := range []impl.Edit{{Kind: impl.EditAll}, {Kind: impl.EditMake}, {Kind: impl.EditProp, At: 1}, {Kind: impl.EditGone}} {
			e.Tree = bad
			if s := impl.WireText(e); s != "" {
				t.Errorf("WireText of what is no tree = %.200q", s)
			}
		}
	}
}

func TestWireReadOfWhatIsNoLine(t *testing.T) {
	for _, e := range fullEdits() {
		s := wantWire(e)
		checkWireRead(t, s)
		for end := range s {
			checkWireRead(t, s[:end])
			checkWireRead(t, s[end+1:])
		}
		for _, more := range []string{" ", "  ", " 0", "0", "/0", " /", "\n", "\x00", "'", ")", " -"} {
			checkWireRead(t, s+more)
			checkWireRead(t, more+s)
		}
		word, rest, _ := strings.Cut(s, " ")
		checkNoLineOf(t, word+"  "+rest, word+rest, word, word+" ", rest, " "+s, s+" ", strings.ToUpper(word)+" "+rest, word+"s "+rest, word[:2]+" "+rest)
		for _, other := range append(wireWords, "al", "alls", "", "post", "set") {
			checkWireRead(t, other+" "+rest)
			checkWireRead(t, other+" / "+strings.SplitN(rest, " ", 2)[1])
		}
	}
	checkNoLineOf(t, "", " ", "/", "all", "all /", "all / ", "all (t0)", "all  (t0)", "text / 5", "text / -", "text / ''x", "text / '", "text / ab", "text / a'", "text / 'ab", "text '' '", "text / '-0'", "text / '-1001'", "text / 'A'", "text / 0 'a'",
		"prop / 2", "prop / 2 ", "prop / -", "prop / 2  5", "prop / 2 05", "prop / 2 +5", "prop / 2 -0", "prop / 2 1001", "prop / 2 '-7'", "prop / 2 a", "prop / 2 5 5", "prop / 201 5", "prop / -1 5", "prop / 02 5", "prop / +2 5", "prop / 2 (t0)",
		"drop /", "drop / 201", "drop / -1", "drop / 01", "drop / +1", "drop / 1 1", "drop / 1 ", "drop 1", "drop  1", "drop /3/ 1", "drop //3 1", "drop 3 1", "drop /-1 1", "drop /+1 1", "drop /01 1", "drop /201 1", "drop / / 1", "drop /a 1", "drop /1 2 3",
		"gone / 99999999999999999999", "gone /99999999999999999999 1", "gone / 18446744073709551616", "gone / 1.0", "gone / 0x1", "gone / 1_0", "gone / ١",
		"make / 0", "make / (t0)", "make / 0 (t9)", "make / 0 (t0) (t0)", "make / 201 (t0)", "make / 0 (t0 (t1 k1) (t1 k1))", "all / (t0 p0=-0)",
		"move / 2", "move / 2 ", "move / 2 201", "move / 2 -1", "move / 2 01", "move / 2 3 4", "move / 2  3")
}

func TestWireReadOfEndsOfRanges(t *testing.T) {
	for _, s := range []string{"gone / 200", "gone /200 0", "move / 200 200", "prop / 200 -1000", "prop / 0 1000", "text / '-1000'", "drop " + strings.Repeat("/200", 24) + " 200", "all / " + wantText(flat(200)), "all / " + wantText(nested(24, word("")))} {
		if !checkWireRead(t, s) {
			t.Errorf("%.200q is not read", s)
		}
	}
	checkNoLineOf(t, "drop "+strings.Repeat("/0", 25)+" 0", "drop "+strings.Repeat("/", 25)+" 0", "all / "+wantText(flat(201)), "all / "+wantText(nested(25, word(""))))
}

func TestWireReadOfLongLines(t *testing.T) {
	for _, head := range []string{"all / ", "make /1/2 30 "} {
		for _, bytes := range []int{7998, 7999, 8000, 8001, 8002, 9000} {
			s := head + wantText(longTree(bytes-len(head)))
			if ok := checkWireRead(t, s); len(s) != bytes || ok != (bytes <= 8000) {
				t.Errorf("a line of %d bytes is read: %v", len(s), ok)
			}
		}
	}
	// A line that is too long is written.
	checkWire(t, impl.Edit{Kind: impl.EditAll, Tree: longTree(15000)})
	for _, s := range []string{"/0", "all ", " ", "(", "all / ("} {
		checkNoLineOf(t, strings.Repeat(s, 200000/len(s)), "gone "+strings.Repeat(s, 7900/len(s)), "all / "+strings.Repeat(s, 7900/len(s)))
	}
}

func TestWireReadOfChangedLines(t *testing.T) {
	r := rand.New(rand.NewPCG(25, 20))
	reads := 0
	for range 4000 {
		s := wantWire(randomWire(r))
		at := r.IntN(len(s))
		more := []string{"", " ", "/", "0", "1", "2", "20", "-", "'", "a", "(", ")", "9"}[r.IntN(13)]
		reads += truth(checkWireRead(t, s[:at]+more+s[at+1:])).Num
		reads += truth(checkWireRead(t, s[:at]+more+s[at:])).Num
	}
	if reads < 1000 {
		t.Errorf("only %d of the lines are read", reads)
	}
}

func TestWireRun(t *testing.T) {
	const from = "(t0 p1=1 (t1 k1 'a') 'b')"
	checkLinedTo(t, from, from, 0)
	checkLinedTo(t, from, "(t0 p1=1 (t1 k1 'c') 'b')", 1, "text /0/0 'c'")
	lines := []string{"prop / 2 -", "drop / 1", "make / 2 (t2)", "move / 0 2", "gone / 0", "text /1/0 '-7'", "all /0 'x'"}
	checkLinedTo(t, from, "(t0 p2=- 'x' (t1 k1 '-7'))", 7, lines...)
	// The first, a middle and the last one is no edit, or cannot be done.
	for _, bad := range []string{"", "gone", "gone / 7", "move / 0 9", "text / 'a'", "drop / 3", "prop /1 2 5", "make /9 0 'x'", "prop / 4 5", "make / 0 (t2 k1)", "make / 0 " + wantText(flat(200)), "all /0 " + wantText(nested(24, word("")))} {
		checkLinedTo(t, from, from, 0, append([]string{bad}, lines...)...)
		checkLinedTo(t, from, "(t0 p1=1 p2=- (t1 k1 'a') 'b')", 1, lines[0], bad, lines[1])
		checkLinedTo(t, from, "(t0 p2=- (t1 k1 'a') 'b')", 2, lines[0], lines[1], bad)
	}
	// Each tree between them must be valid.
	checkLinedTo(t, from, from, 0, "make / 0 (t2 k1)", "gone / 1")
	checkLinedTo(t, from, "(t0 p1=1 (t2 k1) 'b')", 2, "gone / 0", "make / 0 (t2 k1)")
}

func TestWireRunOfMaxEdits(t *testing.T) {
	lines := slices.Repeat([]string{"prop / 1 3"}, 4000)
	for _, many := range []int{1999, 2000} {
		checkLinedTo(t, "(t0)", "(t0 p1=3)", many, lines[:many]...)
	}
	for _, many := range []int{2001, 2002, 4000} {
		if tree, n := impl.WireRun(elem(0, -1), lines[:many]); n != 0 || !same(tree, impl.Tree{}) {
			t.Errorf("WireRun by %d lines = %s, %d", many, brief(tree), n)
		}
	}
	lines[1999] = "drop / 2"
	checkLinedTo(t, "(t0)", "(t0 p1=3)", 1999, lines[:2000]...)
	lines[0] = "x"
	checkLinedTo(t, "(t0)", "(t0)", 0, lines[:2000]...)
}

func TestWireRunOfTreesThatAreNotValid(t *testing.T) {
	for _, bad := range invalidTrees() {
		for _, lines := range [][]string{nil, {"all / 'a'"}, {"x"}} {
			if tree, n := impl.WireRun(bad, lines); n != 0 || !same(tree, impl.Tree{}) {
				t.Errorf("WireRun of what is no tree = %s, %d", brief(tree), n)
			}
		}
	}
}

func TestWireRunOfRandomLines(t *testing.T) {
	r := rand.New(rand.NewPCG(25, 21))
	found := map[bool]int{}
	for range 4000 {
		a := randomTree(r, 1+r.IntN(20), 24)
		now := a
		var lines []string
		for range r.IntN(6) {
			e := randomEdit(r, now)
			if e.Kind == impl.EditText {
				e.Val = text(impl.ValShow(e.Val))
			}
			s := wantWire(wantBare(e))
			if r.IntN(20) == 0 {
				s += " "
			}
			lines = append(lines, s)
			now, _ = wantPatched(now, e, e.Way)
		}
		checkLined(t, a, lines...)
		_, n := wantLined(a, lines)
		found[n == len(lines)]++
	}
	if found[true] < 500 || found[false] < 500 {
		t.Errorf("%v of the lines are all done", found)
	}
}

func TestLinesOfEditsChangeAndShareNothing(t *testing.T) {
	for _, e := range fullEdits() {
		e.Way = append(make([]int, 0, 9), e.Way...)
		before := wantWire(e)
		s := impl.WireText(e)
		back, _ := impl.WireRead(s)
		checkUnshared(t, back, e)
		if wantWire(e) != before {
			t.Errorf("the edit %v is another one now", e)
		}
	}
	eachTwoTrees(300, func(_ *rand.Rand, a, b impl.Tree) {
		textA := wantText(a)
		var lines []string
		for _, e := range impl.TreeEdits(a, b) {
			lines = append(lines, impl.WireText(e))
		}
		for _, list := range [][]string{nil, lines, append([]string{"x"}, lines...)} {
			copied := slices.Clone(list)
			tree, _ := impl.WireRun(a, list)
			checkUnshared(t, tree, a, list)
			if wantText(a) != textA || !slices.Equal(list, copied) {
				t.Errorf("%s or its lines are other ones now", textA)
			}
		}
	})
}

func TestPromise80LinesAreReadBack(t *testing.T) {
	r := rand.New(rand.NewPCG(25, 22))
	for range 5000 {
		e := randomWire(r)
		if !wantWritten(e) {
			t.Errorf("the edit %v is not written", e)
		}
		checkWire(t, e)
	}
	eachTwoTrees(500, func(_ *rand.Rand, a, b impl.Tree) {
		for _, e := range impl.TreeEdits(a, b) {
			checkWire(t, e)
		}
	})
}

func TestPromise81WhatIsReadIsWrittenTheSame(t *testing.T) {
	r := rand.New(rand.NewPCG(25, 23))
	many := 0
	for range 4000 {
		s := []byte(wantWire(randomWire(r)))
		for range 3 {
			s[r.IntN(len(s))] = " /0123'-()tkpab=movegdrl"[r.IntN(24)]
			if e, ok := impl.WireRead(string(s)); ok {
				many++
				if back := impl.WireText(e); back != string(s) {
					t.Errorf("WireText of WireRead(%q) is %q", s, back)
				}
			}
		}
	}
	if many < 500 {
		t.Errorf("%d lines are read", many)
	}
}

func TestPromise82WhatCannotBeDoneEndsIt(t *testing.T) {
	eachTwoTrees(1000, func(r *rand.Rand, a, b impl.Tree) {
		var lines []string
		for _, e := range impl.TreeEdits(a, b) {
			lines = append(lines, impl.WireText(e))
		}
		at := r.IntN(len(lines) + 1)
		want, many := impl.WireRun(a, lines[:at])
		for _, bad := range []string{"", "gone / 200", "text /200 'a'"} {
			got, n := impl.WireRun(a, slices.Concat(lines[:at], []string{bad}, lines[at:]))
			if n != many || !same(got, want) {
				t.Errorf("WireRun(%s) with %q at %d = %s, %d, not %s, %d", brief(a), bad, at, brief(got), n, brief(want), many)
			}
		}
	})
}

func TestPromise106EditsThatAreSentAsLinesMakeATreeTheOtherOne(t *testing.T) {
	many := 0
	eachTwoTrees(2500, func(_ *rand.Rand, a, b impl.Tree) {
		if countOf(a)+countOf(b) > 200 {
			return
		}
		var lines []string
		for _, e := range impl.TreeEdits(a, b) {
			lines = append(lines, impl.WireText(e))
		}
		if slices.ContainsFunc(lines, func(s string) bool { return len(s) > 8000 }) {
			return
		}
		many++
		if tree, n := impl.WireRun(a, lines); n != len(lines) || !same(tree, b) {
			t.Errorf("WireRun(%s, %.300q) = %s, %d, not %s", brief(a), lines, brief(tree), n, brief(b))
		}
	})
	if many < 1500 {
		t.Errorf("%d trees are made other ones", many)
	}
}
