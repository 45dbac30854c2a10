package impl

import "strconv"

// MaxNum is the largest number.
const MaxNum = 1000

// MaxWord is the largest number of bytes of the text of a value.
const MaxWord = 12

// ValNone is the kind of no value.
const ValNone = 0

// ValNum is the kind of numbers.
const ValNum = 1

// ValText is the kind of texts.
const ValText = 2

// OpAdd is the sum.
const OpAdd = 0

// OpSub is the difference.
const OpSub = 1

// OpMul is the product.
const OpMul = 2

// OpLess tells whether a number is less.
const OpLess = 3

// OpSame tells whether values are the same.
const OpSame = 4

// OpJoin joins texts.
const OpJoin = 5

// OpAnd is the second value if the first one counts as true.
const OpAnd = 6

// Value is a value: its kind, and its number or its text.
type Value struct {
	Kind int
	Num  int
	Text string
}

// ValOk reports whether a value is valid: ValNone (0) with Num 0 and no Text; ValNum (1) with Num from -MaxNum to MaxNum and no Text; ValText (2) with Num 0 and a Text of at most MaxWord small letters, digits and spaces.
func ValOk(v Value) bool {
	switch v.Kind {
	case ValNone:
		return v.Num == 0 && v.Text == ""
	case ValNum:
		return numOk(v.Num) && v.Text == ""
	case ValText:
		return v.Num == 0 && wordOk(v.Text)
	}
	return false
}

func numOk(n int) bool {
	return -MaxNum <= n && n <= MaxNum
}

// wordOk looks at bytes, not runes: the document counts and compares bytes.
func wordOk(s string) bool {
	if len(s) > MaxWord {
		return false
	}
	for i := range len(s) {
		if !wordByteOk(s[i]) {
			return false
		}
	}
	return true
}

func wordByteOk(c byte) bool {
	return 'a' <= c && c <= 'z' || '0' <= c && c <= '9' || c == ' '
}

// ValShow returns the valid value as a text: that of ValText, the number of ValNum, and nothing of ValNone; "" for other arguments.
func ValShow(v Value) string {
	if !ValOk(v) {
		return ""
	}
	if v.Kind == ValNum {
		return strconv.Itoa(v.Num)
	}
	return v.Text
}

// ValTrue reports whether the valid value counts as true: a number other than 0, or a text that is not empty; false for other arguments.
func ValTrue(v Value) bool {
	return ValOk(v) && (v.Num != 0 || v.Text != "")
}

// operator makes a value of two valid ones; ValDo asks once, for all of them, whether they are.
type operator func(a Value, b Value) Value

// ValDo returns what an operator makes of two valid values: OpAdd (0), OpSub (1) and OpMul (2) of two ValNum, ValNone if that is beyond MaxNum; OpLess (3) of two ValNum, and OpSame (4) of any two, 1 or 0; OpJoin (5) the ValShow of both as ValText, ValNone if that is no valid one; OpAnd (6) the second one if the first one counts as true, and otherwise the first one; ValNone for other kinds; the zero value for other arguments.
func ValDo(op int, a Value, b Value) Value {
	operators := [...]operator{
		OpAdd:  sumOf,
		OpSub:  differenceOf,
		OpMul:  productOf,
		OpLess: lessOf,
		OpSame: sameOf,
		OpJoin: joinOf,
		OpAnd:  andOf,
	}
	if op < 0 || op >= len(operators) || !ValOk(a) || !ValOk(b) {
		return Value{}
	}
	return operators[op](a, b)
}

func sumOf(a Value, b Value) Value {
	return ofNums(a, b, func(x, y int) int { return x + y })
}

func differenceOf(a Value, b Value) Value {
	return ofNums(a, b, func(x, y int) int { return x - y })
}

func productOf(a Value, b Value) Value {
	return ofNums(a, b, func(x, y int) int { return x * y })
}

func lessOf(a Value, b Value) Value {
	return ofNums(a, b, func(x, y int) int { return oneIf(x < y) })
}

func sameOf(a Value, b Value) Value {
	return Value{Kind: ValNum, Num: oneIf(a == b)}
}

func joinOf(a Value, b Value) Value {
	return validOrNone(Value{Kind: ValText, Text: ValShow(a) + ValShow(b)})
}

func andOf(a Value, b Value) Value {
	if ValTrue(a) {
		return b
	}
	return a
}

// ofNums needs no care for wraparound: both numbers are valid, and so are small.
func ofNums(a Value, b Value, count func(x, y int) int) Value {
	if a.Kind != ValNum || b.Kind != ValNum {
		return Value{}
	}
	return validOrNone(Value{Kind: ValNum, Num: count(a.Num, b.Num)})
}

func validOrNone(v Value) Value {
	if !ValOk(v) {
		return Value{}
	}
	return v
}

func oneIf(yes bool) int {
	if yes {
		return 1
	}
	return 0
}
