package source

import (
	"fmt"
	"math"
	"reflect"
	"slices"
	"strings"
	"testing"

	"warp/api"
)

// P5.1: the chapter's examples, and those of the whole that layer 5 has.
func TestChapterExamples(t *testing.T) {
	s := start(t, "var x = 1; thread main { x = x + 1; print x; }")
	want(t, "x", toldRun(s, 0, 0), "0.0 r0=1 w0=2\n0.1 r0=2 out true 2 end(0,0)\n{2 0 0 0}")
	s = start(t, "thread main { spawn t; join; } thread t { }")
	want(t, "spawn", toldRun(s, 0, 0), "0.0 spawn(0,1)\n0.1 join(0,1) end(0,0)\n{2 0 0 0}")
	s = start(t, "mutex m; thread main { lock m; lock m; }")
	want(t, "lock", toldRun(s, 0, 0), "0.0 lock(0,0)\n0.1 trap4\n{4 4 0 1}")
	s = start(t, "thread main { print 1 / 0; }")
	want(t, "print", toldRun(s, 0, 0), "0.0 trap1\n{4 1 0 0}")
}

// P5.1: each kind of statement, what its step tells and what it does.
func TestStatements(t *testing.T) {
	for _, c := range []struct{ stmts, events, cells, locals string }{
		{"let k = 7;", "0.0 end(0,0)", "[0 5 0 0 0 0 0]", "[7]"},
		{"let k = x;", "0.0 r1=5 end(0,0)", "[0 5 0 0 0 0 0]", "[5]"},
		{"let k = 1; let j = k + 1; k = j + 1;", "0.0/0.1/0.2 end(0,0)", "[0 5 0 0 0 0 0]", "[3 2]"},
		{"x = 7;", "0.0 w1=7 end(0,0)", "[0 7 0 0 0 0 0]", "[]"},
		{"w = x;", "0.0 r1=5 w0=5 end(0,0)", "[5 5 0 0 0 0 0]", "[]"},
		{"x = x + x * w;", "0.0 r1=5 r1=5 r0=0 w1=5 end(0,0)", "[0 5 0 0 0 0 0]", "[]"},
		{"a[2] = 9; b[0] = 8;", "0.0 w6=9/0.1 w2=8 end(0,0)", "[0 5 8 0 0 0 9]", "[]"},
		{"a[w + 1] = x;", "0.0 r0=0 r1=5 w5=5 end(0,0)", "[0 5 0 0 0 5 0]", "[]"},
		{"b[1] = 2; a[b[1]] = b[b[w]] + a[b[1]];", "0.0 w3=2/0.1 r3=2 r0=0 r2=0 r2=0 r3=2 r6=0 w6=0 end(0,0)", "[0 5 0 2 0 0 0]", "[]"},
		{"if x { w = 1; } else { w = 2; }", "0.0 r1=5 is 5/0.1 w0=1 end(0,0)", "[1 5 0 0 0 0 0]", "[]"},
		{"if w { w = 1; } else { w = 2; }", "0.0 r0=0/0.2 w0=2 end(0,0)", "[2 5 0 0 0 0 0]", "[]"},
		{"if -3 { w = 1; }", "0.0 is -3/0.1 w0=1 end(0,0)", "[1 5 0 0 0 0 0]", "[]"},
		{"if 0 { w = 1; }", "0.0 end(0,0)", "[0 5 0 0 0 0 0]", "[]"},
		{"if 1 { } else { w = 1; }", "0.0 is 1 end(0,0)", "[0 5 0 0 0 0 0]", "[]"},
		{"if 1 { w = 1; x = 2; } w = 3;", "0.0 is 1/0.1 w0=1/0.2 w1=2/0.3 w0=3 end(0,0)", "[3 2 0 0 0 0 0]", "[]"},
		{"while w < 2 { w = w + 1; } x = 1;", "0.0 r0=0 is 1/0.1 r0=0 w0=1/0.0 r0=1 is 1/0.1 r0=1 w0=2/0.0 r0=2/0.2 w1=1 end(0,0)", "[2 1 0 0 0 0 0]", "[]"},
		{"while x { x = 0; }", "0.0 r1=5 is 5/0.1 w1=0/0.0 r1=0 end(0,0)", "[0 0 0 0 0 0 0]", "[]"},
		{"while 0 { x = 0; }", "0.0 end(0,0)", "[0 5 0 0 0 0 0]", "[]"},
		{"lock m;", "0.0 lock(1,0) end(0,0)", "[0 5 0 0 0 0 0]", "[]"},
		{"lock m; lock l; unlock m; lock m;", "0.0 lock(1,0)/0.1 lock(0,0)/0.2 unlock(1,0)/0.3 lock(1,0) end(0,0)", "[0 5 0 0 0 0 0]", "[]"},
		{"signal d; all d;", "0.0/0.1 end(0,0)", "[0 5 0 0 0 0 0]", "[]"},
		{"send q x; send q 6; recv q w; recv q x;", "0.0 r1=5 send(1,0)/0.1 send(1,1)/0.2 w0=5 recv(1,0)/0.3 w1=6 recv(1,1) end(0,0)", "[5 6 0 0 0 0 0]", "[]"},
		{"let j = 1; let k = 0; send p -3; recv p k; send p 4; recv p j;", "0.0/0.1/0.2 send(0,0)/0.3 recv(0,0)/0.4 send(0,1)/0.5 recv(0,1) end(0,0)", "[0 5 0 0 0 0 0]", "[4 -3]"},
		{"spawn t; spawn t; join;", "0.0 spawn(0,1)/0.1 spawn(0,2)/0.2 join(0,1) join(0,2) end(0,0)", "[0 5 0 0 0 0 0]", "[]"},
		{"join;", "0.0 end(0,0)", "[0 5 0 0 0 0 0]", "[]"},
		{"print x; print 0; print -2147483647 - 1;", "0.0 r1=5 out true 5/0.1 out true 0/0.2 out true -2147483648 end(0,0)", "[0 5 0 0 0 0 0]", "[]"},
	} {
		s := inMain(t, c.stmts)
		text := strings.ReplaceAll(toldRun(s, make([]int, 40)...), "\n", "/")
		want(t, c.stmts, text, c.events+"/{2 0 0 0}")
		v, _ := s.Thread(0)
		want(t, c.stmts, fmt.Sprint(s.Cells(), v.Locals), c.cells+" "+c.locals)
	}
}

// values is what expressions are worth: a number, or a trap.
var values = map[string]string{
	"0": "0", "2147483647": "2147483647", "-2147483647 - 1": "-2147483648",
	"k": "3", "x": "5", "a[0]": "7", "a[2]": "-2", "b[1]": "4", "a[k - 1]": "-2", "a[b[0]]": "7",
	"a[3]": "trap3", "a[-1]": "trap3", "b[2]": "trap3", "a[2147483647]": "trap3", "a[-2147483647 - 1]": "trap3", "b[a[2]]": "trap3",
	"-5": "-5", "-0": "0", "--5": "5", "-x": "-5", "-(-2147483647 - 1)": "trap2", "-2147483647": "-2147483647",
	"!0": "1", "!1": "0", "!-1": "0", "!!x": "1", "!w": "1",
	"0 || 0": "0", "0 || 7": "1", "7 || 0": "1", "-7 || 9": "1", "0 || -1": "1",
	"0 && 0": "0", "0 && 7": "0", "7 && 0": "0", "-7 && 9": "1", "1 && 1": "1",
	"1 || 1 / 0": "1", "0 || 1 / 0": "trap1", "0 && 1 / 0": "0", "1 && 1 / 0": "trap1", "1 / 0 || 1": "trap1", "1 / 0 && 0": "trap1",
	"2 == 2": "1", "2 == 3": "0", "2 != 2": "0", "2 != 3": "1", "x == 5": "1", "-1 == 1": "0",
	"2 < 3": "1", "3 < 3": "0", "3 < 2": "0", "-3 < 2": "1", "2 <= 3": "1", "3 <= 3": "1", "3 <= 2": "0", "-2147483647 - 1 <= 2147483647": "1",
	"2 + 3": "5", "2 - 3": "-1", "2 * -3": "-6", "0 * 2147483647": "0",
	"2147483647 + 1": "trap2", "2147483647 + 0": "2147483647", "-2147483647 + -1": "-2147483648", "-2147483647 - 2": "trap2", "-2147483647 + -2": "trap2",
	"46341 * 46341": "trap2", "46340 * 46341": "2147441940", "65536 * -32768": "-2147483648", "65536 * 32768": "trap2", "-65536 * 32769": "trap2",
	"2147483647 * 2147483647": "trap2", "(-2147483647 - 1) * (-2147483647 - 1)": "trap2", "(-2147483647 - 1) * 1": "-2147483648",
	"7 / 2": "3", "-7 / 2": "-3", "7 / -2": "-3", "-7 / -2": "3", "1 / 2": "0", "-1 / 2": "0", "0 / 5": "0",
	"7 % 2": "1", "-7 % 2": "-1", "7 % -2": "1", "-7 % -2": "-1", "6 % 3": "0", "-6 % 3": "0", "0 % 5": "0",
	"7 / 0": "trap1", "7 % 0": "trap1", "0 / 0": "trap1", "0 % 0": "trap1", "x / w": "trap1",
	"(-2147483647 - 1) / -1": "trap2", "(-2147483647 - 1) % -1": "0", "(-2147483647 - 1) / 1": "-2147483648", "2147483647 / -1": "-2147483647",
	"(2147483647 + 1) / 0": "trap2", "1 / 0 + a[9]": "trap1", "a[9] + 1 / 0": "trap3", "a[1 / 0]": "trap1", "2147483647 + 1 - 1": "trap2",
	"1 - 2 - 3": "-4", "1 - (2 - 3)": "2", "2 + 3 * 4": "14", "(2 + 3) * 4": "20", "x - k == 2 && !w": "1",
}

// P5.1: what expressions are worth, in each statement that has one.
func TestExpressions(t *testing.T) {
	const ahead = "let k = 3; a[0] = 7; a[2] = -2; b[1] = 4; "
	for e, worth := range values {
		for _, stmt := range []string{"print E;", "let j = E;", "k = E;", "w = E;", "b[0] = E;", "if E { }", "while E { join; }", "send q E;"} {
			s := inMain(t, ahead+strings.Replace(stmt, "E", e, 1))
			s.Run(0, 0, 0, 0)
			ev, fault := s.Step(0)
			v, _ := s.Thread(0)
			queue, _ := s.Sync().Values(1)
			got := map[byte]any{'p': ev.Out, 'l': v.Locals[1:], 'k': v.Locals[0], 'w': s.Cells()[0], 'b': s.Cells()[2], 'i': ev.Value, 's': queue}[stmt[0]]
			if strings.HasPrefix(stmt, "while") {
				got = ev.Value
			}
			text := strings.Trim(fmt.Sprint(got), "[]")
			if ev.Trap != api.TrapNone {
				text = fmt.Sprintf("trap%d", ev.Trap)
			}
			if text != worth || fault != api.OK || ev.Stmt != 4 {
				t.Errorf("%s of %s is %s, error %d, want %s", stmt, e, text, fault, worth)
			}
		}
	}
}

// P5.1: what is read is told from the left, each part ahead of what is made of it, as far as it was worked out.
func TestReads(t *testing.T) {
	for e, reads := range map[string]string{
		"w + x": "r0=0 r1=5", "x + w": "r1=5 r0=0", "x - x - w": "r1=5 r1=5 r0=0", "w * (x + a[0])": "r0=0 r1=5 r4=0",
		"a[b[w]]": "r0=0 r2=0 r4=0", "-x": "r1=5", "!x == w": "r1=5 r0=0", "k + x": "r1=5", "a[k]": "r4=0",
		"x || w": "r1=5", "w || x": "r0=0 r1=5", "w && x": "r0=0", "x && w": "r1=5 r0=0", "w || w || x || a[0]": "r0=0 r0=0 r1=5", "x && w && x": "r1=5 r0=0",
		"x / w": "r1=5 r0=0 trap1", "x % w": "r1=5 r0=0 trap1", "a[x]": "r1=5 trap3", "a[a[x]]": "r1=5 trap3", "x + a[x] + w": "r1=5 r1=5 trap3", "a[0] + x / w + x": "r4=0 r1=5 r0=0 trap1",
		"x * 2147483647": "r1=5 trap2", "w - x - 2147483647": "r0=0 r1=5 trap2", "w || x / w": "r0=0 r1=5 r0=0 trap1",
	} {
		s := inMain(t, "let k = 0; let j = "+e+"; join;")
		events, _ := s.Run(0, 0)
		want(t, e, told(events[1]), "0.1 "+reads)
	}
}

// P5.1: of an array's cell the index is worked out, then the expression; then it is looked whether there is that place.
func TestPutInOrder(t *testing.T) {
	for stmt, event := range map[string]string{
		"a[x] = w;": "r1=5 r0=0 trap3", "a[3] = w;": "r0=0 trap3", "a[-1] = 1;": "trap3", "b[2] = 1;": "trap3", "b[2147483647] = x;": "r1=5 trap3",
		"a[3] = x / w;": "r1=5 r0=0 trap1", "a[x / w] = x;": "r1=5 r0=0 trap1", "a[a[x]] = w;": "r1=5 trap3", "a[3] = 2147483647 + 1;": "trap2", "a[x - 3] = w;": "r1=5 r0=0 w6=0",
	} {
		s := inMain(t, stmt+" join;")
		events, _ := s.Run(0)
		want(t, stmt, told(events[0]), "0.0 "+event)
	}
}

// P5.1: each trap of each statement: all stays as it was but for the outcome, and nothing goes on.
func TestTraps(t *testing.T) {
	for _, c := range []struct {
		stmts, event string
		trap         api.Trap
		at           int
	}{
		{"let k = x / w;", "0.0 r1=5 r0=0 trap1", api.TrapZero, 0},
		{"x = x % w;", "0.0 r1=5 r0=0 trap1", api.TrapZero, 0},
		{"x = x * 2147483647;", "0.0 r1=5 trap2", api.TrapRange, 0},
		{"a[x] = 1;", "0.0 r1=5 trap3", api.TrapIndex, 0},
		{"if a[x] { } else { }", "0.0 r1=5 trap3", api.TrapIndex, 0},
		{"while x / w { join; }", "0.0 r1=5 r0=0 trap1", api.TrapZero, 0},
		{"lock l; lock m; lock m;", "0.2 trap4", api.TrapOwner, 2},
		{"lock l; unlock m;", "0.1 trap4", api.TrapOwner, 1},
		{"lock m; unlock m; unlock m;", "0.2 trap4", api.TrapOwner, 2},
		{"lock l; wait c m;", "0.1 trap4", api.TrapOwner, 1},
		{"send q 1; send q x / w; recv q x;", "0.1 r1=5 r0=0 trap1", api.TrapZero, 1},
		{"spawn t; spawn t; spawn t; spawn t; spawn t; spawn t; spawn t; spawn t;", "0.7 trap5", api.TrapThreads, 7},
		{"join; print x + 2147483647;", "0.1 r1=5 trap2", api.TrapRange, 1},
		{"if 1 { while 1 { print a[3]; } } join;", "0.2 trap3", api.TrapIndex, 2},
	} {
		s := inMain(t, c.stmts+" join;")
		for v, _ := s.Thread(0); v.Next != c.at; v, _ = s.Thread(0) {
			if _, fault := s.Do(0); fault != api.OK {
				t.Fatalf("%s: error %d", c.stmts, fault)
			}
		}
		ahead := s.Copy()
		ev, fault := s.Step(0)
		want(t, c.stmts, told(ev), c.event)
		if fault != api.OK || s.Outcome() != trapped(c.trap, 0, c.at) || without(s) != without(ahead) || Same(ahead, s) {
			t.Errorf("%s: error %d, outcome %v, %s", c.stmts, fault, s.Outcome(), stands(s))
		}
		if ahead.Outcome() != goes {
			t.Errorf("%s: a copy that was made ahead: %v", c.stmts, ahead.Outcome())
		}
		steps(t, s).can().refuses(0, api.ErrEnd).refuses(s.Threads(), api.ErrArg)
		if ev, fault := s.Step(0); fault != api.ErrEnd || !reflect.DeepEqual(ev, api.Event{}) {
			t.Errorf("%s: Step behind it: %v, error %d", c.stmts, ev, fault)
		}
		if c := s.Copy(); !Same(c, s) || c.Outcome() != s.Outcome() || len(c.Can()) > 0 {
			t.Errorf("a copy behind a trap: %v", c.Outcome())
		}
	}
}

// P5.1: a trap of one thread stops the others too, and tells who it was.
func TestTrapOfAnother(t *testing.T) {
	s := start(t, "mutex m; thread main { lock m; spawn t; unlock m; } thread t { unlock m; }")
	steps(t, s).does(0, "0.0 lock(0,0)").does(0, "0.1 spawn(0,1)").can(0, 1).does(1, "1.3 trap4").
		ends(trapped(api.TrapOwner, 1, 3)).can().refuses(0, api.ErrEnd).refuses(1, api.ErrEnd).refuses(2, api.ErrArg).
		is(0, api.ThreadGoes, 2).is(1, api.ThreadGoes, 3)
	if owner, _ := s.Sync().Owner(0); owner != 0 {
		t.Error("the owner is", owner)
	}
}

// P5.1: who waits for a mutex can't go on till it is nobody's.
func TestLocks(t *testing.T) {
	s := start(t, "mutex l; mutex m; thread main { lock m; spawn t; spawn t; unlock m; } thread t { lock m; lock l; unlock m; }")
	steps(t, s).does(0, "0.0 lock(1,0)").does(0, "0.1 spawn(0,1)").can(0).refuses(1, api.ErrBlocked).is(1, api.ThreadGoes, 4).
		does(0, "0.2 spawn(0,2)").can(0).does(0, "0.3 unlock(1,0) end(0,0)").can(1, 2).refuses(0, api.ErrBlocked).
		does(2, "2.4 lock(1,0)").can(2).does(2, "2.5 lock(0,0)").does(2, "2.6 unlock(1,0) end(0,0)").can(1).ends(goes).
		does(1, "1.4 lock(1,0)").can().ends(stuck).refuses(1, api.ErrEnd).refuses(0, api.ErrEnd).is(1, api.ThreadGoes, 5).is(2, api.ThreadEnded, -1)
}

const waiters = "cond c; cond d; mutex l; mutex m; thread main { spawn t; spawn t; spawn u; lock m; SIGNAL unlock m; SIGNAL } thread t { lock m; wait d m; unlock m; } thread u { lock m; wait d m; unlock m; }"

// P5.1: one that waits leaves its mutex; the one that waits longest wakes, and has it again ahead of all else.
func TestWaits(t *testing.T) {
	s := start(t, strings.ReplaceAll(waiters, "SIGNAL", "signal c; signal d;"))
	steps(t, s).does(0, "0.0 spawn(0,1)").does(0, "0.1 spawn(0,2)").does(0, "0.2 spawn(0,3)").
		does(2, "2.9 lock(1,0)").does(2, "2.10 unlock(1,0)").is(2, api.ThreadWaits, 10).refuses(2, api.ErrBlocked).
		does(1, "1.9 lock(1,0)").does(1, "1.10 unlock(1,0)").does(3, "3.12 lock(1,0)").can(3).does(3, "3.13 unlock(1,0)").can(0).
		does(0, "0.3 lock(1,0)").does(0, "0.4").can(0).does(0, "0.5 signal(1,2)").
		is(2, api.ThreadWakes, 10).is(1, api.ThreadWaits, 10).can(0).refuses(2, api.ErrBlocked).
		does(0, "0.6 unlock(1,0)").can(0, 2).
		does(0, "0.7").does(0, "0.8 signal(1,1) end(0,0)").can(1, 2).
		does(1, "1.10 woke lock(1,0)").is(1, api.ThreadGoes, 11).can(1).is(2, api.ThreadWakes, 10).
		does(1, "1.11 unlock(1,0) end(0,0)").does(2, "2.10 woke lock(1,0)").does(2, "2.11 unlock(1,0) end(0,0)").
		can().ends(stuck).is(3, api.ThreadWaits, 13).refuses(3, api.ErrEnd)
	if waits, _ := s.Sync().Waits(1); !slices.Equal(waits, []int{3}) {
		t.Error("at the condition:", waits)
	}
}

// P5.1: all that wait for a condition wake, and are told in the order in which they came.
func TestAll(t *testing.T) {
	s := start(t, strings.ReplaceAll(waiters, "SIGNAL", "all c; all d;"))
	steps(t, s).does(0, "0.0 spawn(0,1)").does(0, "0.1 spawn(0,2)").does(0, "0.2 spawn(0,3)")
	for _, n := range []int{3, 1, 2} {
		s.Do(n)
		s.Do(n)
	}
	steps(t, s).can(0).does(0, "0.3 lock(1,0)").does(0, "0.4").does(0, "0.5 signal(1,3) signal(1,1) signal(1,2)").can(0).
		is(1, api.ThreadWakes, 10).is(2, api.ThreadWakes, 10).is(3, api.ThreadWakes, 13).
		does(0, "0.6 unlock(1,0)").can(0, 1, 2, 3).does(3, "3.13 woke lock(1,0)").can(0, 3).
		does(0, "0.7").does(0, "0.8 end(0,0)").does(3, "3.14 unlock(1,0) end(0,0)").can(1, 2).
		does(2, "2.10 woke lock(1,0)").refuses(1, api.ErrBlocked)
}

// P5.1: a wait that is the last statement ends its thread as it wakes, with the mutex; a wait in a loop waits again.
func TestWaitLast(t *testing.T) {
	s := start(t, "var n = 0; cond c; mutex m; thread main { spawn t; while 1 { signal c; n = 1; } } thread t { lock m; while n == 0 { wait c m; } wait c m; }")
	steps(t, s).does(0, "0.0 spawn(0,1)").does(1, "1.4 lock(0,0)").does(1, "1.5 r0=0 is 1").does(1, "1.6 unlock(0,0)").
		does(0, "0.1 is 1").does(0, "0.2 signal(0,1)").does(1, "1.6 woke lock(0,0)").is(1, api.ThreadGoes, 5).
		does(1, "1.5 r0=0 is 1").does(1, "1.6 unlock(0,0)").does(0, "0.3 w0=1").does(0, "0.1 is 1").does(0, "0.2 signal(0,1)").
		does(1, "1.6 woke lock(0,0)").does(1, "1.5 r0=1").does(1, "1.7 unlock(0,0)").is(1, api.ThreadWaits, 7).
		does(0, "0.3 w0=1").does(0, "0.1 is 1").does(0, "0.2 signal(0,1)").is(1, api.ThreadWakes, 7).
		does(1, "1.7 woke lock(0,0) end(0,0)").is(1, api.ThreadEnded, -1).can(0)
	if owner, _ := s.Sync().Owner(0); owner != 1 {
		t.Error("the owner is", owner)
	}
}

// P5.1: who sends waits for room, who receives for a value; numbers rise over all that ever were sent.
func TestChannels(t *testing.T) {
	s := start(t, "var x = 0; chan p 1; chan q 2; thread main { spawn t; send q 1; send q 2; send q 3; send q 4; } thread t { let k = 9; recv q x; recv q k; recv q x; recv q x; }")
	steps(t, s).does(0, "0.0 spawn(0,1)").does(1, "1.5").can(0).refuses(1, api.ErrBlocked).
		does(0, "0.1 send(1,0)").can(0, 1).does(0, "0.2 send(1,1)").can(1).refuses(0, api.ErrBlocked).
		does(1, "1.6 w0=1 recv(1,0)").can(0, 1).does(0, "0.3 send(1,2)").does(1, "1.7 recv(1,1)").does(1, "1.8 w0=3 recv(1,2)").can(0).
		does(0, "0.4 send(1,3) end(0,0)").does(1, "1.9 w0=4 recv(1,3) end(0,0)").ends(done)
	if v, _ := s.Thread(1); !slices.Equal(v.Locals, []int64{2}) {
		t.Error("locals", v.Locals)
	}
}

// P5.1: a full channel of room 16, and an expression that would trap is not worked out while there is no room.
func TestFull(t *testing.T) {
	s := start(t, "var i = 0; chan q 16; thread main { while i < 16 { send q i; i = i + 1; } send q 1 / 0; }")
	events, o := s.Run(make([]int, 60)...)
	if len(events) != 49 || o != stuck {
		t.Errorf("%d events, outcome %v", len(events), o)
	}
	if l, _ := s.Sync().Values(0); len(l) != 16 || l[15] != 15 {
		t.Error("values", l)
	}
	steps(t, s).is(0, api.ThreadGoes, 3)
}

// P5.1: join waits for all that the thread spawned itself, and for no others.
func TestJoin(t *testing.T) {
	s := start(t, "thread main { spawn t; spawn e; spawn t; join; join; } thread t { spawn u; } thread u { print 1; } thread e { }")
	steps(t, s).does(0, "0.0 spawn(0,1)").does(0, "0.1 spawn(0,2)").is(2, api.ThreadEnded, -1).does(0, "0.2 spawn(0,3)").
		can(1, 3).refuses(0, api.ErrBlocked).is(0, api.ThreadGoes, 3).does(3, "3.5 spawn(0,4) end(0,0)").can(1, 4).
		does(1, "1.5 spawn(0,5) end(0,0)").can(0, 4, 5).does(0, "0.3 join(0,1) join(0,2) join(0,3)").
		does(0, "0.4 join(0,1) join(0,2) join(0,3) end(0,0)").ends(goes).does(5, "5.6 out true 1 end(0,0)").does(4, "4.6 out true 1 end(0,0)").ends(done)
	for n, spawned := range [][]int{{1, 2, 3}, {5}, nil, {4}, nil, nil} {
		if v, _ := s.Thread(n); !slices.Equal(v.Spawned, spawned) {
			t.Errorf("thread %d spawned %v", n, v.Spawned)
		}
	}
}

// P5.1: as many threads as may be, ended ones among them, and one more.
func TestMaxThreads(t *testing.T) {
	for _, text := range []string{
		"thread main { spawn main; while 1 { spawn e; } } thread e { }",
		"thread e { } thread t { } thread main { spawn e; while 1 { spawn t; } }",
	} {
		s := start(t, text)
		for s.Outcome() == goes {
			s.Step(0)
		}
		if s.Threads() != api.MaxThreads || s.Outcome().Trap != api.TrapThreads {
			t.Errorf("%d threads, outcome %v", s.Threads(), s.Outcome())
		}
	}
	s := start(t, "thread main { spawn main; spawn main; }")
	events, o := s.Run(make([]int, 100)...)
	if last := told(events[len(events)-1]); last != "3.1 trap5" || o != trapped(api.TrapThreads, 3, 1) {
		t.Errorf("%s, outcome %v", last, o)
	}
	s = start(t, "thread main { spawn e; spawn e; spawn e; spawn e; spawn e; spawn e; spawn e; } thread e { }")
	if _, o := s.Run(make([]int, 7)...); o != done || s.Threads() != api.MaxThreads {
		t.Errorf("%d threads, outcome %v", s.Threads(), o)
	}
}

// P5.1: a thread without statements is ended as it is spawned; so is main, wherever it was declared.
func TestNoStatements(t *testing.T) {
	for i, text := range []string{"thread main { }", "thread a { join; } thread main { }", "var x = 3; thread a { } thread b { } thread main { } thread d { }"} {
		s := start(t, text)
		steps(t, s).ends(done).can().is(0, api.ThreadEnded, -1).refuses(0, api.ErrEnd).refuses(1, api.ErrArg)
		if v, _ := s.Thread(0); v.Decl != i || s.Threads() != 1 {
			t.Errorf("%q: %+v, %d threads", text, v, s.Threads())
		}
		if ev, fault := s.Step(7); fault != api.ErrEnd || !reflect.DeepEqual(ev, api.Event{}) {
			t.Errorf("%q: Step: %v, error %d", text, ev, fault)
		}
	}
}

// P5.1: a pick is taken modulo how many can go on, below 0 too.
func TestPicks(t *testing.T) {
	ahead := start(t, "thread main { spawn t; spawn e; spawn t; spawn t; join; print 7; } thread t { print 1; print 2; } thread e { }")
	ahead.Run(0, 0, 0, 0)
	steps(t, ahead).can(1, 3, 4)
	for pick, thread := range map[int]int{
		0: 1, 1: 3, 2: 4, 3: 1, 4: 3, 5: 4, 300: 1, -1: 4, -2: 3, -3: 1, -4: 4, -300: 1,
		math.MaxInt: []int{1, 3, 4}[math.MaxInt%3], math.MinInt: []int{1, 3, 4}[math.MinInt%3+3], math.MaxInt32: 3, math.MinInt32: 3,
	} {
		s := ahead.Copy()
		if ev, fault := s.Step(pick); ev.Thread != thread || fault != api.OK {
			t.Errorf("Step(%d): %s, error %d, want thread %d", pick, told(ev), fault, thread)
		}
		s = ahead.Copy()
		if events, o := s.Run(pick, pick); len(events) != 2 || events[0].Thread != thread || o != goes {
			t.Errorf("Run(%d): %v, %v", pick, events, o)
		}
	}
}

// P5.1: Run goes as far as its picks, or to the end.
func TestRun(t *testing.T) {
	const text = "var x = 1; thread main { spawn t; x = x * 2; x = x * 3; } thread t { x = x + 1; }"
	for _, c := range []struct {
		picks []int
		text  string
	}{
		{nil, "{1 0 0 0}"},
		{[]int{5}, "0.0 spawn(0,1)\n{1 0 0 0}"},
		{[]int{0, 1, 0, 0}, "0.0 spawn(0,1)\n1.3 r0=1 w0=2 end(0,0)\n0.1 r0=2 w0=4\n0.2 r0=4 w0=12 end(0,0)\n{2 0 0 0}"},
		{[]int{0, 0, -2, -1, 4, 4, 4}, "0.0 spawn(0,1)\n0.1 r0=1 w0=2\n0.2 r0=2 w0=6 end(0,0)\n1.3 r0=6 w0=7 end(0,0)\n{2 0 0 0}"},
	} {
		want(t, fmt.Sprint(c.picks), toldRun(start(t, text), c.picks...), c.text)
		s, u := start(t, text), start(t, text)
		for _, pick := range c.picks {
			s.Run(pick)
			u.Step(pick)
		}
		v := start(t, text)
		v.Run(c.picks...)
		if !Same(s, v) || !Same(u, v) {
			t.Errorf("%v: one by one it is not the same", c.picks)
		}
	}
	s := start(t, "var x = 0; thread main { while 1 { x = x + 1; } }")
	if events, o := s.Run(make([]int, 20001)...); len(events) != 20001 || o != goes || s.Cells()[0] != 10000 {
		t.Errorf("%d events, outcome %v, %v", len(events), o, s.Cells())
	}
}

// P5.1: what Do refuses, in the order of its errors.
func TestDoRefused(t *testing.T) {
	s := start(t, "mutex m; thread main { lock m; spawn t; join; } thread t { lock m; }")
	for _, n := range append([]int{1, 2, 3}, farNumbers...) {
		wantRefused(t, s, n, api.ErrArg)
	}
	s.Run(0, 0)
	for _, n := range append([]int{2, 3}, farNumbers...) {
		wantRefused(t, s, n, api.ErrArg)
	}
	steps(t, s).ends(stuck).refuses(0, api.ErrEnd).refuses(1, api.ErrEnd)
	for _, n := range append(farNumbers, 0, 1) {
		wantRefused(t, nil, n, api.ErrNil)
		wantRefused(t, &State{}, n, api.ErrNil)
	}
}

// P5.1: a block in a block, to the deepest that may be, and what is next behind each.
func TestNested(t *testing.T) {
	text := strings.Repeat("if 1 { ", api.MaxDepth-1) + "print 1; " + strings.Repeat("print 2; } ", api.MaxDepth-1)
	s := start(t, "thread main { "+text+"}")
	events, o := s.Run(make([]int, 100)...)
	var out []int64
	for _, ev := range events {
		if ev.Told {
			out = append(out, ev.Out)
		}
	}
	if len(events) != 2*api.MaxDepth-1 || o != done || len(out) != api.MaxDepth || out[0] != 1 || out[23] != 2 {
		t.Errorf("%d events, %v, told %v", len(events), o, out)
	}
	deep := strings.Repeat("-", api.MaxDepth-1)
	s = start(t, "thread main { let k = "+deep+"5; a["+deep[2:]+"1] = k; print a["+deep[3:]+"1 - 2]; } array a 2; ")
	want(t, "deep", toldRun(s, 0, 0, 0), "0.0\n0.1 trap3\n{4 3 0 1}")
}
