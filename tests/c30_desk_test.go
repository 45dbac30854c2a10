package tests

import (
	"fmt"
	"math/rand/v2"
	"regexp"
	"slices"
	"strconv"
	"strings"
	"testing"

	"loop.example/drawnanew/impl"
)

var (
	postPattern  = regexp.MustCompile(`^(set|add) ([0-2]) (` + valuePattern + `) (-1|[0-2])$`)
	eventPattern = regexp.MustCompile(`^event (\S+) ([0-2])$`)
	workPattern  = regexp.MustCompile(`^work (\d+)$`)
)

// clerk is the tests' own desk: a screen, and patterns of lines.
type clerk struct{ *player }

func clerkBehind(p []impl.Comp, lines []string) (clerk, []string) {
	c := clerk{play(p, nil)}
	var answers []string
	for _, line := range lines {
		answers = append(answers, c.answer(line))
	}
	return c, answers
}

func (c clerk) answer(line string) string {
	if m := postPattern.FindStringSubmatch(line); m != nil {
		at, _ := strconv.Atoi(m[2])
		lane, _ := strconv.Atoi(m[4])
		value := con(read("(t0 p0=" + m[3] + ")").Props[0].Val)
		u := setTo(nil, at, lane, value)
		if m[1] == "add" {
			u = setTo(nil, at, lane, state(at), value, do(impl.OpAdd))
		}
		c.post(u)
		return "posted"
	}
	if m := eventPattern.FindStringSubmatch(line); m != nil && wayPattern.MatchString(m[1]) && strings.Count(m[1], "/") <= 24 && smallNumbers(strings.Split(m[1], "/")...) {
		return c.rise(m[1], int(m[2][0]-'0'))
	}
	if m := workPattern.FindStringSubmatch(line); m != nil && numberPattern.MatchString(m[1]) {
		if units, err := strconv.Atoi(m[1]); err == nil && units <= 300 {
			c.take(turns(working(units)))
			return c.state()
		}
	}
	switch line {
	case "flush":
		c.flush()
		return c.state()
	case "state":
		return c.state()
	case "show":
		return wantText(wantTree(c.p, cellsOf(c.root.Drafts)))
	case "log":
		return fmt.Sprint(len(c.root.Log))
	}
	return "what"
}

func (c clerk) rise(words string, event int) string {
	var way []int
	for _, s := range strings.FieldsFunc(words, func(r rune) bool { return r == '/' }) {
		n, _ := strconv.Atoi(s)
		way = append(way, n)
	}
	s := cellsOf(c.root.Drafts)
	if _, ok := partsOn(c.p, s, way); !ok {
		return "nothing"
	}
	updates := wantUpdates(c.p, s, way, event)
	for _, u := range updates {
		c.post(u)
	}
	return fmt.Sprint(len(updates))
}

func (c clerk) state() string {
	wants := wantWants(c.root.Line)
	if c.root.Busy {
		return fmt.Sprint("busy ", c.root.Lane)
	}
	for lane := range 3 {
		if wants&(1<<lane) != 0 {
			return fmt.Sprint("waiting ", lane)
		}
	}
	return "idle"
}

// checkDesk checks the answers to lines, and the screen behind them.
func checkDesk(t *testing.T, p []impl.Comp, lines []string) clerk {
	t.Helper()
	c, want := clerkBehind(p, lines)
	if got := impl.RunDesk(p, lines); !slices.Equal(got, want) {
		t.Errorf("RunDesk(%v, %q) = %q, not %q", p, lines, got, want)
	}
	checkSame(t, "DeskRoot", impl.DeskRoot(p, lines), c.whole())
	return c
}

func checkNoDesk(t *testing.T, p []impl.Comp, lines []string) {
	t.Helper()
	if got := impl.RunDesk(p, lines); len(got) > 0 {
		t.Errorf("RunDesk(%v, %q) = %q", p, lines, got)
	}
	checkSame(t, "DeskRoot", impl.DeskRoot(p, lines), impl.Root{})
}

// checkAnswers checks lines, each of which has its answer behind it.
func checkAnswers(t *testing.T, p []impl.Comp, both ...string) {
	t.Helper()
	var lines, want []string
	for i := 0; i < len(both); i += 2 {
		lines, want = append(lines, both[i]), append(want, both[i+1])
	}
	if got := impl.RunDesk(p, lines); !slices.Equal(got, want) {
		t.Errorf("RunDesk(%q) = %q, not %q", lines, got, want)
	}
	checkDesk(t, p, lines)
}

// deskProg draws (t0 (t1 '5' 'a' (t2 '0') (t2 '0'))): two states of the root, with an event each at the element, and components with an event of their own.
func deskProg() []impl.Comp {
	add := steps(state(0), con(num(1)), do(impl.OpAdd))
	return []impl.Comp{
		{
			States: []impl.Value{num(5), text("a")},
			Acts:   [][]impl.Set{{{Form: add}, {State: 1, Form: constant(text("b"))}}, nil},
			Body:   eventOf(impl.On{Event: 0, Act: 0}, impl.On{Event: 1, Act: 1}, impl.On{Event: 2, Act: 0})(1, textOf(steps(state(0))), textOf(steps(state(1))), eachOf(number(2), nil, callOf(1))),
		},
		{States: []impl.Value{num(0)}, Acts: [][]impl.Set{{{Form: add}}}, Body: eventOf(impl.On{Event: 0, Act: 0})(2, textOf(steps(state(0))))},
	}
}

func TestDeskConstants(t *testing.T) {
	if impl.MaxDesk != 60 {
		t.Errorf("MaxDesk is %d", impl.MaxDesk)
	}
}

func TestDeskAnswers(t *testing.T) {
	p := deskProg()
	checkAnswers(t, p)
	checkAnswers(t, p, "show", "(t0 (t1 '5' 'a' (t2 '0') (t2 '0')))", "state", "idle", "log", "0", "flush", "idle", "work 300", "idle", "log", "0")
	checkAnswers(t, p, "set 0 7 1", "posted", "state", "waiting 1", "show", "(t0 (t1 '5' 'a' (t2 '0') (t2 '0')))", "work 1", "busy 1", "log", "1", "work 1", "busy 1", "state", "busy 1", "work 1", "idle", "show", "(t0 (t1 '7' 'a' (t2 '0') (t2 '0')))", "log", "2")
	checkAnswers(t, p, "add 0 2 2", "posted", "add 0 3 0", "posted", "state", "waiting 0", "work 3", "waiting 2", "show", "(t0 (t1 '8' 'a' (t2 '0') (t2 '0')))", "flush", "idle", "show", "(t0 (t1 '10' 'a' (t2 '0') (t2 '0')))")
	// What is more urgent throws work away.
	checkAnswers(t, p, "add 0 2 2", "posted", "work 2", "busy 2", "add 0 3 0", "posted", "state", "waiting 0", "log", "2", "work 1", "busy 0", "set 0 1 2", "posted", "state", "busy 0", "flush", "idle", "show", "(t0 (t1 '1' 'a' (t2 '0') (t2 '0')))")
	checkAnswers(t, p, "set 0 0 0", "posted", "work 0", "waiting 0", "work 2", "busy 0", "work 0", "busy 0", "work 1", "idle")
}

func TestDeskValues(t *testing.T) {
	p := deskProg()
	for _, c := range [][3]string{{"-", "''", "''"}, {"-1000", "'-1000'", "'-995'"}, {"1000", "'1000'", "''"}, {"0", "'0'", "'5'"}, {"''", "''", "''"}, {"'a b'", "'a b'", "''"}, {"'  '", "'  '", "''"}, {"'abcdefghijkl'", "'abcdefghijkl'", "''"}, {"'12'", "'12'", "''"}} {
		checkAnswers(t, p, "set 0 "+c[0]+" 0", "posted", "flush", "idle", "show", "(t0 (t1 "+c[1]+" 'a' (t2 '0') (t2 '0')))")
		checkAnswers(t, p, "add 0 "+c[0]+" 0", "posted", "flush", "idle", "show", "(t0 (t1 "+c[2]+" 'a' (t2 '0') (t2 '0')))")
	}
	for _, s := range []string{"", " ", "1001", "-1001", "+5", "05", "-0", "00", "--5", "5-", "a", "5a", "'A'", "'-7'", "'abcdefghijklm'", "'a", "a'", "'a''", "'a' 'b'", "5 5", " 5", "5 ", "'a' ", "(t0)", "1.5", "'é'", "99999999999999999999"} {
		checkAnswers(t, p, "set 0 "+s+" 0", "what", "add 0 "+s+" 0", "what", "state", "idle", "log", "0")
	}
}

func TestDeskStatesAndLanes(t *testing.T) {
	p := deskProg()
	// A state that the root has not is posted, and changes nothing.
	checkAnswers(t, p, "set 2 7 0", "posted", "add 2 7 0", "posted", "state", "waiting 0", "flush", "idle", "log", "2", "show", "(t0 (t1 '5' 'a' (t2 '0') (t2 '0')))")
	for _, s := range []string{"3", "-1", "4", "00", "+0", "-0", "01", "a", "", " ", "0 ", " 0", "99999999999999999999", "4294967296"} {
		checkAnswers(t, p, "set "+s+" 7 0", "what", "add "+s+" 7 0", "what", "state", "idle")
	}
	for lane := range 3 {
		checkAnswers(t, p, fmt.Sprint("set 1 'b' ", lane), "posted", "state", fmt.Sprint("waiting ", lane))
	}
	// What was shown already is no lane to wait in: the update is lost.
	checkAnswers(t, p, "set 0 7 -1", "posted", "state", "idle", "log", "1", "add 0 7 -1", "posted", "log", "2", "flush", "idle")
	for _, s := range []string{"3", "-2", "9", "00", "+0", "-0", "01", "-01", "a", "", " ", "0 ", " 0", "99999999999999999999"} {
		checkAnswers(t, p, "set 0 7 "+s, "what", "add 0 7 "+s, "what", "state", "idle", "log", "0")
	}
	// A Rest that is full: posted, but lost.
	lines := slices.Repeat([]string{"add 0 1 2"}, 41)
	c := checkDesk(t, p, append(lines, "log", "flush", "show"))
	if c.lost != 1 || impl.RunDesk(p, append(lines, "log", "flush", "show"))[40] != "posted" {
		t.Errorf("%d updates are lost", c.lost)
	}
}

func TestDeskEvents(t *testing.T) {
	p := deskProg()
	checkAnswers(t, p, "event /0 0", "2", "state", "waiting 0", "flush", "idle", "show", "(t0 (t1 '6' 'b' (t2 '0') (t2 '0')))")
	checkAnswers(t, p, "event /0/2 0", "3", "event /0/3/0 0", "3", "flush", "idle", "show", "(t0 (t1 '7' 'b' (t2 '1') (t2 '1')))")
	// The whole tree, a text, an act without sets, and no part.
	checkAnswers(t, p, "event / 0", "0", "event / 2", "0", "event /0/0 0", "2", "event /0/1 2", "2", "event /0 1", "0", "event /0/2 1", "0", "event /0/2 2", "2")
	checkAnswers(t, p, "event /1 0", "nothing", "event /0/4 0", "nothing", "event /0/0/0 0", "nothing", "event /200 2", "nothing", "event "+strings.Repeat("/0", 24)+" 0", "nothing", "state", "idle", "log", "0")
	for _, way := range []string{"", "0", "//", "/0/", "//0", "/-1", "/+0", "/00", "/01", "/-0", "/a", "/0 /0", "/ 0", " /0", "/0 ", "/201", "/0/201", "/1000", "/99999999999999999999", strings.Repeat("/0", 25), strings.Repeat("/0", 9000)} {
		checkAnswers(t, p, "event "+way+" 0", "what")
	}
	for _, s := range []string{"3", "-1", "4", "00", "+0", "-0", "01", "a", "", " ", "0 ", " 0", "0 0", "99999999999999999999"} {
		checkAnswers(t, p, "event /0 "+s, "what", "event /7 "+s, "what", "state", "idle")
	}
	// What is shown counts, and what an event posts may throw work away.
	checkAnswers(t, p, "event /0 2", "2", "work 1", "busy 2", "event /0/3 0", "3", "state", "waiting 0", "flush", "idle", "show", "(t0 (t1 '7' 'b' (t2 '0') (t2 '1')))")
}

// Events post more than MaxScript updates together.
func TestDeskOfManyUpdates(t *testing.T) {
	p := deskProg()
	c := checkDesk(t, p, append(slices.Repeat([]string{"event /0/2 0", "flush"}, 29), "show", "log"))
	if c.lost > 0 || len(c.log) != 58 {
		t.Errorf("%d updates are lost, %d events are told", c.lost, len(c.log))
	}
	// With a Rest that is full, as many are answered, but they are lost.
	lines := append(slices.Repeat([]string{"event /0/2 0"}, 30), "log", "flush", "show", "log")
	c = checkDesk(t, p, lines)
	answers := impl.RunDesk(p, lines)
	if c.lost != 50 || answers[29] != "3" || answers[30] != "50" || answers[33] != "52" {
		t.Errorf("%d updates are lost: %q", c.lost, answers)
	}
	// A Log that is full.
	lines = append(slices.Repeat([]string{"event /0/2 0"}, 37), "log", "flush", "log", "show")
	if answers = impl.RunDesk(p, lines); answers[37] != "60" || answers[39] != "60" {
		t.Errorf("RunDesk = %q", answers)
	}
	checkDesk(t, p, lines)
}

func TestDeskWork(t *testing.T) {
	p := deskProg()
	checkAnswers(t, p, "set 0 1 0", "posted", "set 0 2 1", "posted", "work 0", "waiting 0", "work 4", "busy 1", "work 300", "idle")
	for _, s := range []string{"301", "-1", "302", "00", "+1", "-0", "01", "a", "", " ", "1 ", " 1", "1 1", "99999999999999999999", "4294967297"} {
		checkAnswers(t, p, "set 0 1 0", "posted", "work "+s, "what", "state", "waiting 0")
	}
	for n := range 305 {
		if n < 5 || n > 296 {
			checkDesk(t, p, []string{"set 0 1 0", fmt.Sprint("work ", n), "state"})
		}
	}
}

func TestDeskWords(t *testing.T) {
	p := deskProg()
	full := []string{"set 0 1 0", "add 0 1 0", "event /0 0", "work 1", "flush", "state", "show", "log"}
	for _, s := range full {
		word, rest, more := strings.Cut(s, " ")
		for _, other := range []string{"", " ", s + " ", " " + s, s + " 0", s + "  ", s + "\n", s + "\t", s + "\x00", strings.ToUpper(s), s[1:], "x" + s, word + "s " + rest, strings.Replace(s, " ", "  ", 1), strings.Replace(s, " ", "\t", 1), strings.Replace(s, " ", "", 1), strings.TrimSuffix(s, " 0")} {
			if other != s {
				checkAnswers(t, p, other, "what", "log", "0", "state", "idle")
			}
		}
		if more {
			checkAnswers(t, p, word, "what", word+" ", "what", word+" "+rest+" "+rest, "what", "state", "idle")
		}
		for end := range s {
			checkDesk(t, p, []string{s[:end], s[end:], "state", "log"})
		}
	}
	checkAnswers(t, p, "what", "what", "idle", "what", "set 0 1", "what", "set 1", "what", "add 0 0", "what", "event 0", "what", "event /", "what", strings.Repeat("set ", 3000), "what", strings.Repeat("x", 100000), "what")
}

func TestDeskOfMaxDesk(t *testing.T) {
	p := deskProg()
	lines := slices.Repeat([]string{"add 0 1 0", "flush"}, 40)
	for _, many := range []int{0, 1, 58, 59, 60} {
		checkDesk(t, p, lines[:many])
	}
	for _, many := range []int{61, 62, 80} {
		checkNoDesk(t, p, lines[:many])
		checkNoDesk(t, p, make([]string, many))
	}
	for _, q := range invalidProgs() {
		checkNoDesk(t, q, nil)
		checkNoDesk(t, q, []string{"show", "state", "what"})
	}
}

// randomLines are lines about a screen of a program.
func randomLines(r *rand.Rand, p []impl.Comp) []string {
	ways := waysOf(wantTree(p, nil))
	var lines []string
	most := 14
	if r.IntN(8) == 0 {
		most = 60
	}
	for range r.IntN(most + 1) {
		way := ways[r.IntN(len(ways))]
		if r.IntN(8) == 0 {
			way = append(slices.Clone(way), r.IntN(3))
		}
		v := wantShown(livelyValue(r))
		line := []string{
			fmt.Sprint("set ", r.IntN(3), " ", v, " ", r.IntN(3)), fmt.Sprint("add ", r.IntN(3), " ", v, " ", r.IntN(3)),
			fmt.Sprint("event ", wantWay(way), " ", r.IntN(3)), fmt.Sprint("event ", wantWay(way), " ", r.IntN(3)),
			fmt.Sprint("work ", r.IntN(5)), "flush", "state", "show", "log",
		}[r.IntN(9)]
		if r.IntN(15) == 0 {
			at := r.IntN(len(line))
			line = line[:at] + []string{"", " ", "-", "1", "/", "'"}[r.IntN(6)] + line[at+r.IntN(2):]
		}
		lines = append(lines, line)
	}
	return lines
}

func eachDesk(many int, visit func(r *rand.Rand, p []impl.Comp, lines []string)) {
	eachLively(many, func(r *rand.Rand, p []impl.Comp, _ []impl.Cell) {
		if r.IntN(4) == 0 {
			p = deskProg()
		}
		visit(r, p, randomLines(r, p))
	})
}

func TestDesksChangeAndShareNothing(t *testing.T) {
	eachDesk(60, func(_ *rand.Rand, p []impl.Comp, lines []string) {
		copied := slices.Clone(lines)
		checkUnshared(t, impl.RunDesk(p, lines), p, lines)
		checkUnshared(t, impl.DeskRoot(p, lines), p, lines)
		if !slices.Equal(lines, copied) {
			t.Errorf("the lines %q are other ones now", copied)
		}
	})
}

func TestDesksOfRandomLines(t *testing.T) {
	found := map[string]int{}
	eachDesk(1200, func(_ *rand.Rand, p []impl.Comp, lines []string) {
		checkDesk(t, p, lines)
		for _, answer := range impl.RunDesk(p, lines) {
			word, _, _ := strings.Cut(answer, " ")
			found[word]++
		}
	})
	for _, word := range []string{"posted", "nothing", "busy", "waiting", "idle", "what", "0", "1", "(t0"} {
		if found[word] < 40 {
			t.Errorf("%d answers are %s", found[word], word)
		}
	}
}

func TestPromise95EachLineHasItsAnswer(t *testing.T) {
	eachDesk(400, func(r *rand.Rand, p []impl.Comp, lines []string) {
		answers := impl.RunDesk(p, lines)
		if len(answers) != len(lines) || slices.Contains(answers, "") {
			t.Errorf("RunDesk(%q) = %q", lines, answers)
		}
		at := r.IntN(len(lines) + 1)
		if first := impl.RunDesk(p, lines[:at]); !slices.Equal(first, answers[:at]) {
			t.Errorf("RunDesk(%q) = %q, not %q", lines[:at], first, answers[:at])
		}
	})
}

func TestPromise96TheScreenOfADeskIsValidAndShown(t *testing.T) {
	eachDesk(500, func(_ *rand.Rand, p []impl.Comp, lines []string) {
		root := impl.DeskRoot(p, lines)
		if !impl.RootOk(p, root) || !wantRootOk(p, root) {
			t.Errorf("RootOk of DeskRoot(%v, %q) is not true", p, lines)
		}
		if len(lines) == 60 {
			return
		}
		answers := impl.RunDesk(p, append(slices.Clone(lines), "show"))
		if want := impl.TreeText(impl.DraftsTree(p, root.Drafts)); answers[len(lines)] != want {
			t.Errorf("behind %q, show is %q, not %q", lines, answers[len(lines)], want)
		}
	})
}

// brokenProg is a program with one thing changed, which may be valid or not.
func brokenProg(r *rand.Rand, p []impl.Comp) []impl.Comp {
	p = slices.Clone(p)
	at := r.IntN(len(p))
	switch r.IntN(6) {
	case 0:
		p[at].Props += r.IntN(3) - 1
	case 1:
		p[at].States = append(slices.Clone(p[at].States), livelyValue(r))
	case 2:
		p[at].States = []impl.Value{{Kind: r.IntN(4), Num: r.IntN(2), Text: "a"[:r.IntN(2)]}}
	case 3:
		p[at].Body.Kind = r.IntN(8) - 1
	case 4:
		p[at].Body.Tag = r.IntN(8) - 1
	case 5:
		p[at].Acts = p[at].Acts[:r.IntN(len(p[at].Acts)+1)]
	}
	return p
}

// refusals tells for each function that takes a program and turns whether it refuses them.
func refusals(p []impl.Comp, list []impl.Turn) []bool {
	_, isZero := impl.RootUnits(p, list), same(impl.RootRun(p, list), impl.Root{})
	return []bool{
		impl.RootUnits(p, list) == -1,
		isZero,
		same(impl.RootTree(p, list), impl.Tree{}),
		len(impl.RootStore(p, list)) == 0,
		len(impl.RootEffects(p, list)) == 0,
		same(impl.RootGo(p, impl.RootRun(p, nil), list), impl.Root{}),
	}
}

func TestPromise111WhatOneRefusesAllRefuse(t *testing.T) {
	found := map[bool]int{}
	bad := invalidTurns()
	eachScript(1200, func(r *rand.Rand, p []impl.Comp, list []impl.Turn) {
		if r.IntN(2) == 0 {
			p = brokenProg(r, p)
		}
		if r.IntN(3) == 0 {
			list = slices.Insert(list, r.IntN(len(list)+1), bad[r.IntN(len(bad))])
		}
		if r.IntN(9) == 0 {
			list = slices.Concat(list, make([]impl.Turn, 30), list, list)
		}
		want := !impl.ProgOk(p) || !impl.TurnsOk(list)
		found[want]++
		for i, refused := range refusals(p, list) {
			if refused != want {
				t.Errorf("the function %d refuses %v, %v: %v", i, p, list, refused)
			}
		}
		if want && len(impl.EventTurns(p, list, []int{0}, 0)) > 0 {
			t.Errorf("EventTurns does not refuse %v, %v", p, list)
		}
		if !impl.ProgOk(p) && (impl.RunDesk(p, []string{"show"}) != nil || len(impl.DrawDrafts(p, nil)) > 0 || impl.ProgSize(p) != -1) {
			t.Errorf("a program that is not valid is not refused: %v", p)
		}
	})
	if found[true] < 300 || found[false] < 300 {
		t.Errorf("%v are refused", found)
	}
}

func TestPromise111WhatAScreenShowsIsDrawnAnewFromItsStoreForEveryProgramAndScript(t *testing.T) {
	kept := 0
	eachStop(1200, func(r *rand.Rand, p []impl.Comp, first, then []impl.Turn) {
		if q := brokenProg(r, p); impl.ProgOk(q) {
			p = q
		}
		then = append(slices.Clone(then[:min(len(then), 59)]), flushed())
		on := impl.RootGo(p, impl.RootRun(p, first), then)
		checkSame(t, "what is shown on a screen that goes on", impl.DrawTree(p, cellsOf(on.Drafts)), impl.DraftsTree(p, on.Drafts))
		checkSame(t, "the base", cellsOf(on.Drafts), on.Line.Base)
		list := slices.Concat(first, then)
		if len(list) > 60 {
			return
		}
		s := impl.RootStore(p, list)
		checkSame(t, "what is shown", impl.DrawTree(p, s), impl.RootTree(p, list))
		checkSame(t, "the tests' own tree", wantTree(p, s), impl.RootTree(p, list))
		checkSame(t, "the store of a screen that goes on", cellsOf(on.Drafts), s)
		if play(p, list).lost > 0 {
			return
		}
		kept++
		var own []impl.Update
		for _, x := range list {
			if x.Kind == impl.TurnPost && len(x.Update.Place) == 0 {
				own = append(own, x.Update)
			}
		}
		root := impl.DrawStore(p, nil)[:1]
		for some := range slices.Chunk(own, 40) {
			root = impl.StoreRun(root, some)
		}
		checkSame(t, "the root's states", s[:1], root)
	})
	if kept < 300 {
		t.Errorf("%d screens lose no update", kept)
	}
}

// brokenTree is a tree with one thing changed, which may be valid or not.
func brokenTree(r *rand.Rand, t impl.Tree) impl.Tree {
	if len(t.Kids) > 0 && r.IntN(4) > 0 {
		at := r.IntN(len(t.Kids))
		t.Kids = slices.Clone(t.Kids)
		t.Kids[at] = brokenTree(r, t.Kids[at])
		return t
	}
	switch r.IntN(7) {
	case 0:
		t.Tag = r.IntN(8) - 2
	case 1:
		t.Key = []int{-2, -1, 0, 99, 100}[r.IntN(5)]
	case 2:
		t.Text = []string{"", "a", "A", "-1", "-0", "abcdefghijklm"}[r.IntN(6)]
	case 3:
		t.Props = append(slices.Clone(t.Props), propOf(r.IntN(5), livelyValue(r)))
	case 4:
		t.Props = []impl.Prop{propOf(r.IntN(6)-1, impl.Value{Kind: r.IntN(4), Num: r.IntN(2)})}
	case 5:
		t.Kids = append(slices.Clone(t.Kids), elem(1, r.IntN(3)))
	case 6:
		t.Kids = append(slices.Clone(t.Kids), flat(r.IntN(220)))
	}
	return t
}

func TestPromise112EditsMakeEveryTreeEveryOtherOne(t *testing.T) {
	found := map[bool]int{}
	check := func(a, b impl.Tree) {
		list := impl.TreeEdits(a, b)
		if impl.TreeOk(a) && impl.TreeOk(b) {
			found[true]++
			if out, ok := impl.TreePatched(a, list); !ok || !same(out, b) {
				t.Errorf("TreePatched(%s, %v) = %s, %v, not %s", brief(a), list, brief(out), ok, brief(b))
			}
			return
		}
		found[false]++
		if len(list) > 0 || impl.TreeMoves(a, b, impl.EditAll) != -1 {
			t.Errorf("TreeEdits(%s, %s) = %v", brief(a), brief(b), list)
		}
		for _, x := range []impl.Tree{a, b} {
			if !impl.TreeOk(x) {
				checkTree(t, "what is no tree", x, false)
				checkUnpatched(t, x)
				checkUnpatched(t, word("a"), impl.Edit{Kind: impl.EditAll, Tree: x})
			}
		}
	}
	eachTwoTrees(3000, func(r *rand.Rand, a, b impl.Tree) {
		if r.IntN(2) == 0 {
			b = brokenTree(r, b)
		}
		check(a, b)
		check(b, a)
		check(b, b)
	})
	if found[true] < 2000 || found[false] < 500 {
		t.Errorf("%v of the trees are valid", found)
	}
}

func TestPromise113ByTheDraftsOfAnyStoreEveryOtherOneIsDrawnAsIfAnew(t *testing.T) {
	eachWork(600, func(r *rand.Rand, p []impl.Comp, old []impl.Draft, s []impl.Cell) {
		if r.IntN(3) == 0 {
			s = append(slices.Clone(s), cell(deepPlace(r.IntN(20)+1), randomStates(r)...))
		}
		if !impl.StoreOk(s) {
			checkNotRedrawn(t, p, old, s)
			checkSame(t, "a work", impl.WorkNew(p, old, s), impl.Work{})
			return
		}
		anew := impl.DrawDrafts(p, s)
		checkSame(t, "the tests' own drafts", anew, wantDrafts(p, s))
		checkSame(t, "RedrawDrafts", impl.RedrawDrafts(p, old, s), anew)
		w := impl.WorkNew(p, old, s)
		for len(w.Open) > 0 {
			w = impl.WorkSteps(p, w, 1+r.IntN(4))
		}
		checkSame(t, "what is done", w.Done, anew)
		if tree, ok := impl.WorkTree(p, w); !ok || !same(tree, impl.DrawTree(p, s)) {
			t.Errorf("WorkTree = %s, %v, not %s", brief(tree), ok, brief(wantTree(p, s)))
		}
		if q := brokenProg(r, p); !impl.ProgOk(q) {
			checkNotRedrawn(t, q, old, s)
			checkSame(t, "a work", impl.WorkNew(q, old, s), impl.Work{})
		}
	})
}

func TestPromise114LanesShownInAnyOrderDoAllUpdatesInOrder(t *testing.T) {
	eachRandomLine(400, func(_ *rand.Rand, l impl.Line) {
		all := impl.LineShow(l, 7)
		checkSame(t, "all updates", all, impl.StoreRun(l.Base, l.Rest))
		for a := range 8 {
			one := impl.LineRest(l, a)
			checkSame(t, "all lanes behind some", impl.LineShow(one, 7), all)
			for b := range 8 {
				checkSame(t, "all lanes behind some and others", impl.LineShow(impl.LineRest(one, b), 7), all)
			}
		}
	})
}

func TestPromise115EveryTextIsATreesOrNone(t *testing.T) {
	found := map[bool]int{}
	r := rand.New(rand.NewPCG(30, 20))
	check := func(s string, other impl.Tree) {
		tree, ok := impl.TreeRead(s)
		left, _, want := readable(s)
		want = want && left == "" && len(s) <= 8000
		found[ok]++
		// Patterns do not count parts, nor rows.
		if ok && !want || !ok && want && strings.Count(s, "(")+strings.Count(s, "'") < 24 {
			t.Errorf("TreeRead(%.200q) is %v", s, ok)
		}
		if !ok {
			checkSame(t, "what is no tree", tree, impl.Tree{})
			if _, ok := impl.WireRead("all / " + s); ok {
				t.Errorf("%.200q is read in a line", s)
			}
			return
		}
		back, outlined := impl.OutlineRead(impl.Outline(tree))
		made, patched := impl.TreePatched(other, impl.TreeEdits(other, tree))
		if impl.TreeText(tree) != s || !outlined || !same(back, tree) || !patched || !same(made, tree) {
			t.Errorf("TreeRead(%.200q) = %s, from its outline %s, and by edits %s", s, brief(tree), brief(back), brief(made))
		}
	}
	eachTwoTrees(2500, func(_ *rand.Rand, a, b impl.Tree) {
		s := []byte(wantText(a))
		check(string(s), b)
		for range 3 {
			s[r.IntN(len(s))] = "()tkp=-' 0123456789ab"[r.IntN(21)]
			check(string(s), b)
		}
		check(string(s[:r.IntN(len(s))]), b)
	})
	for _, s := range []string{"", "(t0)", "''", strings.Repeat("z", 8000), wantText(longTree(8000)), wantText(longTree(8001))} {
		check(s, fullTree())
	}
	if found[true] < 2000 || found[false] < 2000 {
		t.Errorf("%v of the texts are read", found)
	}
}
