package tests

import (
	"math/rand/v2"
	"slices"
	"strings"
	"testing"

	"loop.example/drawnanew/impl"
)

func wantOutline(t impl.Tree, hyphens string) []string {
	bare := t
	bare.Kids = nil
	lines := []string{hyphens + wantText(bare)}
	for _, kid := range t.Kids {
		lines = append(lines, wantOutline(kid, hyphens+"-")...)
	}
	return lines
}

// wantOutlined asks for the row of each line, and then for each part which of those behind it stand right in it.
func wantOutlined(lines []string) (impl.Tree, bool) {
	var parts []impl.Tree
	var rows []int
	for i, line := range lines {
		bare := strings.TrimLeft(line, "-")
		part, ok := impl.TreeRead(bare)
		row := len(line) - len(bare)
		if !ok || len(part.Kids) > 0 || (row == 0) != (i == 0) || i > 0 && row > rows[i-1]+1 {
			return impl.Tree{}, false
		}
		parts, rows = append(parts, part), append(rows, row)
	}
	if len(parts) == 0 || len(parts) > 300 {
		return impl.Tree{}, false
	}
	for i := len(parts) - 1; i >= 0; i-- {
		for n := i + 1; n < len(parts) && rows[n] > rows[i]; n++ {
			if rows[n] == rows[i]+1 {
				parts[i].Kids = append(parts[i].Kids, parts[n])
			}
		}
	}
	if !impl.TreeOk(parts[0]) {
		return impl.Tree{}, false
	}
	return parts[0], true
}

func checkOutline(t *testing.T, tree impl.Tree) {
	t.Helper()
	want := wantOutline(tree, "")
	if got := impl.Outline(tree); !slices.Equal(got, want) {
		t.Errorf("Outline(%s) = %q, not %q", brief(tree), got, want)
	}
	if back, ok := impl.OutlineRead(want); !ok || !same(back, tree) {
		t.Errorf("OutlineRead(%q) = %s, %v, not %s", want, brief(back), ok, brief(tree))
	}
	checkOutlined(t, want)
}

func checkOutlineOf(t *testing.T, s string, want ...string) {
	t.Helper()
	if got := impl.Outline(read(s)); !slices.Equal(got, want) {
		t.Errorf("Outline(%s) = %q, not %q", s, got, want)
	}
	checkOutline(t, read(s))
}

// checkOutlined checks lines, which are an outline or not.
func checkOutlined(t *testing.T, lines []string) bool {
	t.Helper()
	want, ok := wantOutlined(lines)
	if got, read := impl.OutlineRead(lines); read != ok || !same(got, want) {
		t.Errorf("OutlineRead(%.300q) = %s, %v, not %s, %v", lines, brief(got), read, brief(want), ok)
	}
	return ok
}

func checkNoOutline(t *testing.T, lines ...string) {
	t.Helper()
	if checkOutlined(t, lines) {
		t.Errorf("%.300q are read by the tests", lines)
	}
}

func TestOutline(t *testing.T) {
	checkOutlineOf(t, "'a b'", "'a b'")
	checkOutlineOf(t, "(t0)", "(t0)")
	checkOutlineOf(t, "(t0 (t1 k4 p0=-2 '-7') 'b')", "(t0)", "-(t1 k4 p0=-2)", "--'-7'", "-'b'")
	checkOutlineOf(t, "(t2 k50 p1=- p3='' (t4 (t0 (t1)) '') (t3 k1))", "(t2 k50 p1=- p3='')", "-(t4)", "--(t0)", "---(t1)", "--''", "-(t3 k1)")
	for _, tree := range []impl.Tree{fullTree(), flat(200), flat(199), bushy(5), nested(24, word("a")), nested(24, elem(4, 3)), nested(23, word("-1000")), longTree(8000), longTree(15000)} {
		checkOutline(t, tree)
	}
	for _, bad := range invalidTrees() {
		if got := impl.Outline(bad); len(got) > 0 {
			t.Errorf("Outline of what is no tree = %q", got)
		}
	}
}

func TestOutlineReadOfRows(t *testing.T) {
	checkNoOutline(t)
	checkNoOutline(t, "-(t0)")
	checkNoOutline(t, "--(t0)", "-'a'")
	checkNoOutline(t, "(t0)", "(t0)")
	checkNoOutline(t, "(t0)", "-'a'", "(t0)")
	checkNoOutline(t, "'a'", "'a'")
	// Two deeper than the one ahead, and below a text.
	checkNoOutline(t, "(t0)", "--'a'")
	checkNoOutline(t, "(t0)", "-(t1)", "---'a'")
	checkNoOutline(t, "(t0)", "-(t1)", "--(t2)", "-(t3)", "---'a'")
	checkNoOutline(t, "'a'", "-'b'")
	checkNoOutline(t, "(t0)", "-'a'", "--'b'")
	checkNoOutline(t, "(t0)", "-'a'", "--(t1)", "-'c'")
	// 24 parts within each other, and one more.
	lines := wantOutline(nested(25, word("a")), "")
	checkNoOutline(t, lines...)
	if !checkOutlined(t, lines[:24]) {
		t.Errorf("%q are not read", lines[:24])
	}
}

func TestOutlineReadOfManyLines(t *testing.T) {
	lines := wantOutline(flat(300), "")
	for _, many := range []int{1, 2, 199, 200, 201, 202, 300} {
		if checkOutlined(t, lines[:many]) != (many <= 200) {
			t.Errorf("%d lines are read or not", many)
		}
	}
	checkNoOutline(t, slices.Repeat([]string{"(t0)"}, 100000)...)
	for _, bytes := range []int{7999, 8000, 8001, 100000} {
		checkNoOutline(t, strings.Repeat("-", bytes))
		checkNoOutline(t, "(t0)", strings.Repeat("-", bytes-4)+"(t0)")
		checkNoOutline(t, "(t0)", "-"+strings.Repeat("'", bytes-1))
		checkNoOutline(t, "(t0)", "-"+wantText(longTree(min(bytes, 9000)-1)))
	}
}

func TestOutlineReadOfWhatIsNoLine(t *testing.T) {
	for _, bad := range []string{"", " ", "-", "- 'a'", " -'a'", "-'a' ", "-'a'-", "-(t1", "-(t1 ", "-t1)", "-(t1) ", "-(t1))", "- (t1)", "-(t1)-", "(-t1)", "-(t9)", "-'A'", "-(t1 'a')", "-(t1 (t2))", "-(t1)(t2)", "-(t1) (t2)", "-'a' 'b'", "-(t1 k01)", "-(t1  k1)", "-(t1 k1", "-a", "-(t1 p0=1 p0=1)", "-'-0'", "-(t1)\n", "+(t1)", "–(t1)", "-'abcdefghijklm'", "-''\x00"} {
		checkNoOutline(t, "(t0)", bad)
		checkNoOutline(t, "(t0)", "-'a'", bad)
		checkNoOutline(t, "(t0)", bad, "-'a'")
		checkNoOutline(t, strings.TrimPrefix(bad, "-"), "-'a'")
	}
	// Two Kids of one key, and the same key elsewhere.
	checkNoOutline(t, "(t0)", "-(t1 k1)", "-(t2 k1)")
	checkNoOutline(t, "(t0)", "-(t1 k1)", "--'a'", "-'b'", "-(t1 k1)")
	if !checkOutlined(t, []string{"(t0 k1)", "-(t1 k1)", "--(t1 k1)"}) || !checkOutlined(t, []string{"(t0)", "-'-7'", "-'-1000'"}) {
		t.Error("an outline is not read")
	}
}

// otherLines are lines in which one thing is another one.
func otherLines(r *rand.Rand, lines []string) []string {
	lines = slices.Clone(lines)
	at := r.IntN(len(lines))
	switch r.IntN(6) {
	case 0:
		return slices.Delete(lines, at, at+1)
	case 1:
		return slices.Insert(lines, at, lines[r.IntN(len(lines))])
	case 2:
		lines[at] = "-" + lines[at]
	case 3:
		lines[at] = strings.TrimPrefix(lines[at], "-")
	case 4:
		other := r.IntN(len(lines))
		lines[at], lines[other] = lines[other], lines[at]
	default:
		i := r.IntN(len(lines[at]))
		lines[at] = lines[at][:i] + []string{"", " ", "-", "'", "(", ")", "1", "a"}[r.IntN(8)] + lines[at][i+1:]
	}
	return lines
}

func TestOutlineReadOfChangedLines(t *testing.T) {
	found := map[bool]int{}
	eachBoxes(4000, func(r *rand.Rand, tree impl.Tree, _ []impl.Rule, _ int) {
		lines := otherLines(r, wantOutline(tree, ""))
		found[checkOutlined(t, lines)]++
		if len(lines) > 0 {
			checkOutlined(t, otherLines(r, lines))
		}
	})
	if found[true] < 300 || found[false] < 300 {
		t.Errorf("%v of the lines are read", found)
	}
}

func TestOutlinesChangeAndShareNothing(t *testing.T) {
	eachBoxes(300, func(_ *rand.Rand, tree impl.Tree, _ []impl.Rule, _ int) {
		before := wantText(tree)
		lines := impl.Outline(tree)
		checkUnshared(t, lines, tree)
		copied := slices.Clone(lines)
		back, _ := impl.OutlineRead(lines)
		checkUnshared(t, back, lines, tree)
		if wantText(tree) != before || !slices.Equal(lines, copied) {
			t.Errorf("%s or its lines are other ones now", before)
		}
	})
}

func TestPromise89AnOutlineIsReadBack(t *testing.T) {
	check := func(tree impl.Tree) {
		lines := impl.Outline(tree)
		if back, ok := impl.OutlineRead(lines); !ok || !same(back, tree) || len(lines) != impl.TreeSize(tree) {
			t.Errorf("OutlineRead(%q) = %s, %v, not %s", lines, brief(back), ok, brief(tree))
		}
		checkOutline(t, tree)
	}
	eachRandomTree(func(_ *rand.Rand, tree impl.Tree) { check(tree) })
	eachBoxes(1000, func(_ *rand.Rand, tree impl.Tree, _ []impl.Rule, _ int) { check(tree) })
}

func TestPromise90WhatIsReadHasTheOutline(t *testing.T) {
	many := 0
	eachBoxes(3000, func(r *rand.Rand, tree impl.Tree, _ []impl.Rule, _ int) {
		lines := otherLines(r, impl.Outline(tree))
		if back, ok := impl.OutlineRead(lines); ok {
			many++
			if !slices.Equal(impl.Outline(back), lines) || !impl.TreeOk(back) {
				t.Errorf("Outline of OutlineRead(%q) is %q", lines, impl.Outline(back))
			}
		}
	})
	if many < 300 {
		t.Errorf("%d outlines are read", many)
	}
}
