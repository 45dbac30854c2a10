package tests

import (
	"math"
	"strconv"
	"strings"
	"testing"

	"loop.example/drawnanew/impl"
)

func none() impl.Value { return impl.Value{} }

func num(n int) impl.Value { return impl.Value{Kind: impl.ValNum, Num: n} }

func text(s string) impl.Value { return impl.Value{Kind: impl.ValText, Text: s} }

// validValues has each kind, the ends of the ranges, and values that differ in their kind alone.
func validValues() []impl.Value {
	list := []impl.Value{none()}
	for _, n := range []int{-1000, -999, -501, -500, -32, -31, -7, -1, 0, 1, 2, 3, 9, 10, 25, 31, 32, 40, 99, 100, 500, 501, 999, 1000} {
		list = append(list, num(n))
	}
	for _, s := range []string{"", " ", "0", "1", "7", "a", "z", "az09 ", "ab", "ba", "000000", "1000", "abcdefghijk", "abcdefghijkl", "            "} {
		list = append(list, text(s))
	}
	return list
}

// invalidValues has other kinds, numbers and texts beyond the ranges, and those that do not belong to the kind.
func invalidValues() []impl.Value {
	list := []impl.Value{
		{Kind: -1}, {Kind: 3}, {Kind: math.MinInt}, {Kind: math.MaxInt}, {Kind: 3, Num: 1}, {Kind: -1, Text: "a"},
		{Kind: impl.ValNone, Num: 1}, {Kind: impl.ValNone, Num: -1}, {Kind: impl.ValNone, Text: "a"}, {Kind: impl.ValNone, Text: " "},
		{Kind: impl.ValNum, Num: 1, Text: "1"}, {Kind: impl.ValNum, Text: "a"}, {Kind: impl.ValNum, Num: 1, Text: " "},
		{Kind: impl.ValText, Num: 1, Text: "a"}, {Kind: impl.ValText, Num: -1}, {Kind: impl.ValText, Num: 1},
	}
	for _, n := range []int{1001, -1001, 1 << 32, 1<<32 + 1, math.MaxInt, math.MinInt, math.MinInt + 1} {
		list = append(list, num(n))
	}
	for _, s := range []string{"abcdefghijklm", "             ", strings.Repeat("a", 8000), "A", "aB", "-", "-1", "_", "'", "a\n", "\t", "\x00", "é", "a\xff", "abcdefghijké", "１", "\u00a0"} {
		list = append(list, text(s))
	}
	return list
}

func operators() []int {
	return []int{impl.OpAdd, impl.OpSub, impl.OpMul, impl.OpLess, impl.OpSame, impl.OpJoin, impl.OpAnd}
}

func TestValueConstants(t *testing.T) {
	got := []int{impl.MaxNum, impl.MaxWord, impl.ValNone, impl.ValNum, impl.ValText, impl.OpAdd, impl.OpSub, impl.OpMul, impl.OpLess, impl.OpSame, impl.OpJoin, impl.OpAnd}
	for i, want := range []int{1000, 12, 0, 1, 2, 0, 1, 2, 3, 4, 5, 6} {
		if got[i] != want {
			t.Errorf("constant %d is %d, not %d", i, got[i], want)
		}
	}
}

func TestValOk(t *testing.T) {
	for _, v := range validValues() {
		if !impl.ValOk(v) {
			t.Errorf("%#v is not valid", v)
		}
	}
	for _, v := range invalidValues() {
		if impl.ValOk(v) {
			t.Errorf("%#v is valid", v)
		}
	}
}

func TestValOkNumbers(t *testing.T) {
	for n := -1100; n <= 1100; n++ {
		if impl.ValOk(num(n)) != (n >= -1000 && n <= 1000) {
			t.Errorf("ValOk of the number %d", n)
		}
		if n != 0 && (impl.ValOk(impl.Value{Kind: impl.ValNone, Num: n}) || impl.ValOk(impl.Value{Kind: impl.ValText, Num: n})) {
			t.Errorf("the number %d belongs to another kind", n)
		}
	}
}

func TestValOkBytes(t *testing.T) {
	const allowed = "abcdefghijklmnopqrstuvwxyz0123456789 "
	for c := range 256 {
		b := string([]byte{byte(c)})
		want := strings.Contains(allowed, b)
		for _, s := range []string{b, b + "aaaaaaaaaaa", "aaaaa" + b + "aaaaaa", "aaaaaaaaaaa" + b} {
			if impl.ValOk(text(s)) != want {
				t.Errorf("ValOk of the text %q is %v", s, !want)
			}
		}
	}
	for n := range 40 {
		if impl.ValOk(text(strings.Repeat("b", n))) != (n <= 12) {
			t.Errorf("ValOk of a text of %d bytes", n)
		}
	}
}

func TestValShow(t *testing.T) {
	if s := impl.ValShow(none()); s != "" {
		t.Errorf("ValNone shows %q", s)
	}
	for n := -1000; n <= 1000; n++ {
		if s := impl.ValShow(num(n)); s != strconv.Itoa(n) {
			t.Errorf("the number %d shows %q", n, s)
		}
	}
	for _, s := range []string{"", " ", "007", "a b", " ab ", "abcdefghijkl"} {
		if x := impl.ValShow(text(s)); x != s {
			t.Errorf("the text %q shows %q", s, x)
		}
	}
	for _, v := range invalidValues() {
		if s := impl.ValShow(v); s != "" {
			t.Errorf("%#v shows %q", v, s)
		}
	}
}

func TestValTrue(t *testing.T) {
	for _, v := range validValues() {
		want := v != none() && v != num(0) && v != text("")
		if impl.ValTrue(v) != want {
			t.Errorf("ValTrue of %#v is %v", v, !want)
		}
	}
	for _, v := range invalidValues() {
		if impl.ValTrue(v) {
			t.Errorf("%#v counts as true", v)
		}
	}
}

type done struct {
	op   int
	a, b impl.Value
	want impl.Value
}

func checkDone(t *testing.T, list []done) {
	t.Helper()
	for _, c := range list {
		if v := impl.ValDo(c.op, c.a, c.b); v != c.want {
			t.Errorf("ValDo(%d, %#v, %#v) = %#v, not %#v", c.op, c.a, c.b, v, c.want)
		}
	}
}

func TestValDoNumbers(t *testing.T) {
	checkDone(t, []done{
		{impl.OpAdd, num(3), num(4), num(7)},
		{impl.OpAdd, num(0), num(0), num(0)},
		{impl.OpAdd, num(1000), num(0), num(1000)},
		{impl.OpAdd, num(1000), num(1), none()},
		{impl.OpAdd, num(-1000), num(0), num(-1000)},
		{impl.OpAdd, num(-1000), num(-1), none()},
		{impl.OpAdd, num(-1000), num(1000), num(0)},
		{impl.OpAdd, num(1000), num(1000), none()},
		{impl.OpSub, num(3), num(4), num(-1)},
		{impl.OpSub, num(0), num(1000), num(-1000)},
		{impl.OpSub, num(-1), num(1000), none()},
		{impl.OpSub, num(0), num(-1000), num(1000)},
		{impl.OpSub, num(1), num(-1000), none()},
		{impl.OpMul, num(-3), num(4), num(-12)},
		{impl.OpMul, num(-3), num(-4), num(12)},
		{impl.OpMul, num(0), num(-1000), num(0)},
		{impl.OpMul, num(40), num(25), num(1000)},
		{impl.OpMul, num(-40), num(25), num(-1000)},
		{impl.OpMul, num(7), num(143), none()},
		{impl.OpMul, num(-7), num(143), none()},
		{impl.OpMul, num(1000), num(1000), none()},
		{impl.OpMul, num(1000), num(-1), num(-1000)},
		{impl.OpLess, num(3), num(4), num(1)},
		{impl.OpLess, num(4), num(3), num(0)},
		{impl.OpLess, num(4), num(4), num(0)},
		{impl.OpLess, num(-1000), num(1000), num(1)},
		{impl.OpLess, num(1000), num(-1000), num(0)},
	})
}

func TestValDoNumbersAll(t *testing.T) {
	ends := func(n int) impl.Value {
		if n < -1000 || n > 1000 {
			return none()
		}
		return num(n)
	}
	for a := -1000; a <= 1000; a += 8 {
		for b := -1000; b <= 1000; b += 5 {
			checkDone(t, []done{
				{impl.OpAdd, num(a), num(b), ends(a + b)},
				{impl.OpSub, num(a), num(b), ends(a - b)},
				{impl.OpMul, num(a), num(b), ends(a * b)},
				{impl.OpLess, num(a), num(b), truth(a < b)},
			})
		}
	}
}

func truth(yes bool) impl.Value {
	if yes {
		return num(1)
	}
	return num(0)
}

// Numbers alone are added, subtracted, multiplied and compared by size; digits in a text are no number.
func TestValDoOtherKinds(t *testing.T) {
	for _, op := range []int{impl.OpAdd, impl.OpSub, impl.OpMul, impl.OpLess} {
		for _, a := range validValues() {
			for _, b := range validValues() {
				if a.Kind == impl.ValNum && b.Kind == impl.ValNum {
					continue
				}
				checkDone(t, []done{{op, a, b, none()}})
			}
		}
	}
}

func TestValDoSame(t *testing.T) {
	all := validValues()
	for i, a := range all {
		for k, b := range all {
			checkDone(t, []done{{impl.OpSame, a, b, truth(i == k)}})
		}
	}
	checkDone(t, []done{
		{impl.OpSame, none(), num(0), num(0)},
		{impl.OpSame, none(), text(""), num(0)},
		{impl.OpSame, num(7), text("7"), num(0)},
	})
}

func TestValDoJoin(t *testing.T) {
	checkDone(t, []done{
		{impl.OpJoin, text("ab"), num(4), text("ab4")},
		{impl.OpJoin, num(4), text("ab"), text("4ab")},
		{impl.OpJoin, num(4), num(5), text("45")},
		{impl.OpJoin, num(0), none(), text("0")},
		{impl.OpJoin, num(1000), num(1000), text("10001000")},
		{impl.OpJoin, text("ab"), num(-4), none()},
		{impl.OpJoin, num(-4), text("ab"), none()},
		{impl.OpJoin, num(-4), none(), none()},
		{impl.OpJoin, none(), num(-4), none()},
		{impl.OpJoin, none(), none(), text("")},
		{impl.OpJoin, none(), text(""), text("")},
		{impl.OpJoin, text(""), text(""), text("")},
		{impl.OpJoin, text(" "), text(" "), text("  ")},
		{impl.OpJoin, text("abcdef"), text("ghijkl"), text("abcdefghijkl")},
		{impl.OpJoin, text("abcdefg"), text("ghijkl"), none()},
		{impl.OpJoin, text("abcdefghijkl"), none(), text("abcdefghijkl")},
		{impl.OpJoin, text("abcdefghijkl"), text(""), text("abcdefghijkl")},
		{impl.OpJoin, text("abcdefghijkl"), num(0), none()},
		{impl.OpJoin, text("abcdefgh"), num(1000), text("abcdefgh1000")},
		{impl.OpJoin, text("abcdefghi"), num(1000), none()},
	})
}

func TestValDoAnd(t *testing.T) {
	for _, a := range validValues() {
		for _, b := range validValues() {
			want := b
			if a == none() || a == num(0) || a == text("") {
				want = a
			}
			checkDone(t, []done{{impl.OpAnd, a, b, want}})
		}
	}
}

func TestValDoInvalid(t *testing.T) {
	for _, op := range operators() {
		for _, bad := range invalidValues() {
			for _, v := range validValues() {
				checkDone(t, []done{{op, bad, v, none()}, {op, v, bad, none()}})
			}
			checkDone(t, []done{{op, bad, bad, none()}})
		}
	}
	for _, op := range []int{-1, 7, 8, math.MinInt, math.MaxInt, 1 << 32} {
		for _, a := range validValues() {
			checkDone(t, []done{{op, a, a, none()}, {op, a, num(1), none()}})
		}
	}
}

func TestPromise1TrueIsThere(t *testing.T) {
	for _, v := range validValues() {
		if impl.ValTrue(v) && impl.ValShow(v) == "" {
			t.Errorf("%#v counts as true, but is not there", v)
		}
		checkDone(t, []done{{impl.OpSame, v, v, num(1)}})
	}
	if impl.ValTrue(none()) {
		t.Error("ValNone counts as true")
	}
}

// A number below 0 is shown with a sign that no valid text has, so that it alone is not joined.
func TestPromise2ShownIsJoined(t *testing.T) {
	for _, v := range validValues() {
		joined := impl.ValDo(impl.OpJoin, v, none())
		if v.Kind == impl.ValNum && v.Num < 0 {
			if joined != none() {
				t.Errorf("%#v is joined to %#v", v, joined)
			}
		} else if joined != text(impl.ValShow(v)) {
			t.Errorf("%#v is joined to %#v, but shown as %q", v, joined, impl.ValShow(v))
		}
	}
}

func TestPromise3TrueGivesWay(t *testing.T) {
	for _, a := range validValues() {
		for _, b := range validValues() {
			want := a
			if impl.ValTrue(a) {
				want = b
			}
			checkDone(t, []done{{impl.OpAnd, a, b, want}})
		}
	}
}

func TestPromise4MadeIsValid(t *testing.T) {
	for _, a := range validValues() {
		for _, b := range validValues() {
			for _, op := range operators() {
				if v := impl.ValDo(op, a, b); !impl.ValOk(v) {
					t.Errorf("ValDo(%d, %#v, %#v) = %#v is not valid", op, a, b, v)
				}
			}
			for _, op := range []int{impl.OpAdd, impl.OpMul, impl.OpSame} {
				checkDone(t, []done{{op, a, b, impl.ValDo(op, b, a)}})
			}
		}
	}
}
