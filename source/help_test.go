package source

import (
	"fmt"
	"math"
	"reflect"
	"slices"
	"strconv"
	"strings"
	"testing"

	"warp/api"
	"warp/names"
)

// Numbers of threads that are not there, whatever the program is.
var farNumbers = []int{-1, -2, math.MinInt32, math.MinInt, api.MaxThreads, 1 << 31, 1 << 32, math.MaxInt}

// mustFind tells the program of a text that has one.
func mustFind(t *testing.T, text string) api.Prog {
	t.Helper()
	p, place, fault := names.Text(text)
	if fault != api.OK {
		t.Fatalf("%.300q: layer 3 says %d at %v", text, fault, place)
	}
	return p
}

// mustStart tells the state of a program that has one.
func mustStart(t *testing.T, p api.Prog) *State {
	t.Helper()
	s, fault := New(p)
	if s == nil || fault != api.OK {
		t.Fatalf("New: error %d", fault)
	}
	return s
}

// start tells the state of a text.
func start(t *testing.T, text string) *State {
	t.Helper()
	return mustStart(t, mustFind(t, text))
}

// inMain tells the state of a main of these statements, with two of each kind of thing declared ahead, and with a local k of slot 1 that is not there yet.
func inMain(t *testing.T, stmts string) *State {
	t.Helper()
	return start(t, declared+"thread main { "+stmts+" } thread t { }")
}

// declared are variables 0 and 1, and the arrays b, cells 2 and 3, and a, cells 4 to 6.
const declared = "var w = 0; var x = 5; array b 2; array a 3; mutex l; mutex m; cond c; cond d; chan p 1; chan q 2; "

var syncNames = [...]string{"none", "lock", "unlock", "signal", "send", "recv", "spawn", "join", "end"}

// told is an event as a text: thread.statement, and what is not zero.
func told(ev api.Event) string {
	words := []string{strconv.Itoa(ev.Thread) + "." + strconv.Itoa(ev.Stmt)}
	if ev.Woke {
		words = append(words, "woke")
	}
	for _, a := range ev.Accesses {
		how := "r"
		if a.Write {
			how = "w"
		}
		words = append(words, fmt.Sprintf("%s%d=%d", how, a.Cell, a.Value))
	}
	if ev.Told || ev.Out != 0 {
		words = append(words, fmt.Sprint("out ", ev.Told, " ", ev.Out))
	}
	if ev.Value != 0 {
		words = append(words, fmt.Sprint("is ", ev.Value))
	}
	for _, o := range ev.Syncs {
		words = append(words, fmt.Sprintf("%s(%d,%d)", syncNames[o.Kind], o.Slot, o.Other))
	}
	if ev.Trap != api.TrapNone {
		words = append(words, "trap"+strconv.Itoa(int(ev.Trap)))
	}
	return strings.Join(words, " ")
}

// stands is all that a state tells of itself but the program, as a text.
func stands(s *State) string {
	var b strings.Builder
	fmt.Fprintf(&b, "%v cells %v can %v\n", s.Outcome(), s.Cells(), s.Can())
	for n := range s.Threads() {
		v, fault := s.Thread(n)
		fmt.Fprintf(&b, "%d: %v %d\n", n, v, fault)
	}
	parts := s.Sync()
	for i := 0; ; i++ {
		owner, fault := parts.Owner(i)
		if fault != api.OK {
			break
		}
		fmt.Fprintf(&b, "owner %d\n", owner)
	}
	for i := 0; ; i++ {
		waits, fault := parts.Waits(i)
		if fault != api.OK {
			break
		}
		fmt.Fprintf(&b, "waits %v\n", waits)
	}
	for i := 0; ; i++ {
		values, fault := parts.Values(i)
		if fault != api.OK {
			break
		}
		room, _ := parts.Room(i)
		fmt.Fprintf(&b, "values %v for %d\n", values, room)
	}
	return b.String()
}

// without is how a state stands, but for its outcome and who can go on.
func without(s *State) string {
	_, rest, _ := strings.Cut(stands(s), " cells ")
	cells, rest, _ := strings.Cut(rest, " can ")
	_, rest, _ = strings.Cut(rest, "\n")
	return cells + "\n" + rest
}

// want fails unless a text is that.
func want(t *testing.T, what, got, want string) {
	t.Helper()
	if got != want {
		t.Errorf("%s:\ngot  %q\nwant %q", what, got, want)
	}
}

// does does the next step of a thread and fails unless it is told so.
func (r row) does(thread int, text string) row {
	r.t.Helper()
	ev, fault := r.s.Do(thread)
	if fault != api.OK {
		r.t.Errorf("Do(%d): error %d, want %q", thread, fault, text)
		return r
	}
	want(r.t, "Do", told(ev), text)
	return r
}

// row is steps of a state, one behind the other.
type row struct {
	t *testing.T
	s *State
}

func steps(t *testing.T, s *State) row { return row{t, s} }

// refuses fails unless the step of that thread has the error, and changes nothing.
func (r row) refuses(thread int, fault api.Errno) row {
	r.t.Helper()
	wantRefused(r.t, r.s, thread, fault)
	return r
}

// can fails unless just these threads can go on.
func (r row) can(threads ...int) row {
	r.t.Helper()
	if got := r.s.Can(); !slices.Equal(got, threads) {
		r.t.Errorf("can go on: %v, want %v", got, threads)
	}
	return r
}

// is fails unless a thread is in that state and its next statement is that.
func (r row) is(thread int, state api.ThreadState, next int) row {
	r.t.Helper()
	v, fault := r.s.Thread(thread)
	if fault != api.OK || v.State != state || v.Next != next {
		r.t.Errorf("thread %d: %+v, error %d, want state %d, next %d", thread, v, fault, state, next)
	}
	return r
}

// ends fails unless the outcome is that.
func (r row) ends(o api.Outcome) row {
	r.t.Helper()
	if got := r.s.Outcome(); got != o {
		r.t.Errorf("outcome %+v, want %+v", got, o)
	}
	return r
}

// Outcomes that are not behind a trap.
var (
	goes  = api.Outcome{Kind: api.RunGoes}
	done  = api.Outcome{Kind: api.RunDone}
	stuck = api.Outcome{Kind: api.RunStuck}
)

func trapped(trap api.Trap, thread, stmt int) api.Outcome {
	return api.Outcome{Kind: api.RunTrap, Trap: trap, Thread: thread, Stmt: stmt}
}

// wantRefused fails unless Do answers that error, a zero event beside it, and changes nothing.
func wantRefused(t *testing.T, s *State, thread int, fault api.Errno) {
	t.Helper()
	ahead := s.Copy()
	ev, got := s.Do(thread)
	if got != fault || !reflect.DeepEqual(ev, api.Event{}) {
		t.Errorf("Do(%d): %+v, error %d, want %d", thread, ev, got, fault)
	}
	if !Same(ahead, s) || s != nil && stands(ahead) != stands(s) {
		t.Errorf("Do(%d) was refused, and changed the state", thread)
	}
}

// toldRun is the run of these picks as a text, an event a line, and its outcome.
func toldRun(s *State, picks ...int) string {
	events, o := s.Run(picks...)
	text := ""
	for _, ev := range events {
		text += told(ev) + "\n"
	}
	return text + fmt.Sprint(o)
}

// chooser makes numbers that look like thrown ones, the same each time.
type chooser struct{ state uint64 }

func (c *chooser) below(n int) int {
	c.state ^= c.state << 13
	c.state ^= c.state >> 7
	c.state ^= c.state << 17
	return int(c.state % uint64(n))
}

func (c *chooser) rarely(n int) bool { return c.below(n) == 0 }
