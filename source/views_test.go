package source

import (
	"reflect"
	"slices"
	"testing"

	"warp/api"
)

// P5.2: the outcome, each kind.
func TestOutcomes(t *testing.T) {
	for _, c := range []struct {
		text  string
		picks []int
		want  api.Outcome
	}{
		{"thread main { join; }", nil, goes},
		{"thread main { join; }", []int{0}, done},
		{"thread main { }", nil, done},
		{"chan q 1; var x = 0; thread main { recv q x; }", nil, stuck},
		{"chan q 1; thread main { send q 1; send q 1; }", []int{0}, stuck},
		{"cond c; mutex m; thread main { lock m; wait c m; }", []int{0, 0}, stuck},
		{"mutex m; thread main { lock m; spawn t; } thread t { lock m; }", []int{0, 0}, stuck},
		{"mutex l; mutex m; thread main { spawn t; lock l; lock m; } thread t { lock m; lock l; }", []int{0, 0, 1}, stuck},
		{"mutex l; mutex m; thread main { spawn t; lock l; lock m; } thread t { lock m; lock l; }", []int{0, 0, 0}, stuck},
		{"mutex m; thread main { spawn t; lock m; join; } thread t { lock m; unlock m; }", []int{0, 0}, stuck},
		{"mutex m; thread main { spawn t; join; } thread t { lock m; unlock m; }", []int{0, 0, 0, 0}, done},
		{"thread main { spawn main; join; }", []int{0, 0, 0, 0, 0, 0, 0}, goes},
		{"thread main { spawn main; join; }", []int{0, 0, 0, 0, 0, 0, 0, 0}, trapped(api.TrapThreads, 7, 0)},
		{"thread main { print 1 / 0; }", []int{0}, trapped(api.TrapZero, 0, 0)},
	} {
		s := start(t, c.text)
		events, o := s.Run(c.picks...)
		if o != c.want || s.Outcome() != c.want || len(events) != len(c.picks) {
			t.Errorf("%q: %d events, outcome %+v, want %+v", c.text, len(events), o, c.want)
		}
	}
}

// P5.2: variables begin with their values, cells and locals with noughts, threads as they are declared.
func TestAtFirst(t *testing.T) {
	s := start(t, "array a 2; var x = -5; thread t { } array b 1; var y = 2147483647; mutex m; cond c; chan q 3; thread main { let j = 1; let k = 2; }")
	v, fault := s.Thread(0)
	want := api.ThreadView{Decl: 1, State: api.ThreadGoes, Locals: []int64{0, 0}}
	if fault != api.OK || v.Decl != 1 || v.State != want.State || !slices.Equal(v.Locals, want.Locals) || v.Next != 0 || len(v.Spawned) != 0 {
		t.Errorf("%+v, error %d", v, fault)
	}
	if got := s.Cells(); !slices.Equal(got, []int64{-5, 2147483647, 0, 0, 0}) {
		t.Error("cells", got)
	}
	parts := s.Sync()
	owner, a := parts.Owner(0)
	waits, b := parts.Waits(0)
	values, c := parts.Values(0)
	room, d := parts.Room(0)
	_, e := parts.Owner(1)
	_, f := parts.Waits(1)
	_, g := parts.Room(1)
	if owner != -1 || len(waits) != 0 || len(values) != 0 || room != 3 || a != api.OK || b != api.OK || c != api.OK || d != api.OK {
		t.Error(owner, waits, values, room, a, b, c, d)
	}
	if e != api.ErrRange || f != api.ErrRange || g != api.ErrRange {
		t.Error("too many parts:", e, f, g)
	}
	s = start(t, "thread main { spawn u; spawn t; spawn t; } thread t { let k = 7; join; } thread u { join; let j = 1; let k = 2; }")
	s.Run(0, 0, 0)
	s.Do(2)
	for n, want := range []api.ThreadView{
		{Decl: 0, State: api.ThreadEnded, Next: -1, Spawned: []int{1, 2, 3}},
		{Decl: 2, State: api.ThreadGoes, Locals: []int64{0, 0}, Next: 5},
		{Decl: 1, State: api.ThreadGoes, Locals: []int64{7}, Next: 4},
		{Decl: 1, State: api.ThreadGoes, Locals: []int64{0}, Next: 3},
	} {
		v, fault := s.Thread(n)
		if len(v.Locals) == 0 {
			v.Locals = nil
		}
		if len(v.Spawned) == 0 {
			v.Spawned = nil
		}
		if fault != api.OK || !reflect.DeepEqual(v, want) {
			t.Errorf("thread %d: %+v, error %d, want %+v", n, v, fault, want)
		}
	}
	for _, n := range append([]int{4, 5}, farNumbers...) {
		if v, fault := s.Thread(n); fault != api.ErrArg || !reflect.DeepEqual(v, api.ThreadView{}) {
			t.Errorf("thread %d: %+v, error %d", n, v, fault)
		}
	}
}

// P5.1, P5.2: of a nil state, and of one that no call made.
func TestNil(t *testing.T) {
	for _, s := range []*State{nil, {}} {
		for _, n := range append([]int{0, 1}, farNumbers...) {
			if ev, fault := s.Step(n); fault != api.ErrNil || !reflect.DeepEqual(ev, api.Event{}) {
				t.Errorf("Step(%d): %v, error %d", n, ev, fault)
			}
			if ev, fault := s.Do(n); fault != api.ErrNil || !reflect.DeepEqual(ev, api.Event{}) {
				t.Errorf("Do(%d): %v, error %d", n, ev, fault)
			}
			if v, fault := s.Thread(n); fault != api.ErrNil || !reflect.DeepEqual(v, api.ThreadView{}) {
				t.Errorf("Thread(%d): %v, error %d", n, v, fault)
			}
			if events, o := s.Run(n, n); len(events) != 0 || o != (api.Outcome{}) {
				t.Errorf("Run(%d): %v, %v", n, events, o)
			}
		}
		if s.Can() != nil || s.Outcome() != (api.Outcome{}) || s.Cells() != nil || s.Threads() != 0 || s.Sync() != nil || s.Copy() != nil {
			t.Error("a nil state tells something")
		}
		if events, o := s.Run(); len(events) != 0 || o != (api.Outcome{}) {
			t.Errorf("Run(): %v, %v", events, o)
		}
		other := start(t, "thread main { }")
		if !Same(s, nil) || !Same(nil, s) || !Same(s, s) || Same(s, other) || Same(other, s) {
			t.Error("Same of a nil state")
		}
	}
}

// busy is a run in which all changes: cells, locals, mutexes, conditions, channels, threads.
const busy = "var x = 1; array a 2; mutex m; cond c; chan q 2; thread main { spawn t; let k = 3; a[1] = k; send q 4; while x < 4 { x = x + 1; if x == 3 { signal c; } } lock m; recv q k; spawn t; unlock m; join; } thread t { lock m; wait c m; unlock m; }"

var busyPicks = []int{0, 1, 1, 0, 0, 0, 0, 0, 0, 0, 0, 0, 1, 0, 2, 1, 0, 0, 0, 1, 0, 1, 0, 0, 1}

// P5.2: a copy is the same and goes on apart, whichever of the two goes on.
func TestCopies(t *testing.T) {
	one := start(t, busy)
	for _, pick := range busyPicks {
		ahead := stands(one)
		c := one.Copy()
		if !Same(one, c) || stands(c) != ahead {
			t.Fatalf("a copy is another: %s, and %s", ahead, stands(c))
		}
		a, fault := one.Step(pick)
		if stands(c) != ahead || fault != api.OK {
			t.Fatalf("a step of the first, error %d, changes the copy to %s", fault, stands(c))
		}
		if Same(one, c) {
			t.Fatalf("the same behind a step: %s", stands(c))
		}
		behind := stands(one)
		b, fault := c.Step(pick)
		if !reflect.DeepEqual(a, b) || fault != api.OK || stands(one) != behind || stands(c) != behind || !Same(one, c) {
			t.Fatalf("a step of the copy: %s, error %d, want %s", told(b), fault, told(a))
		}
	}
}

// P5.2: all that is told is new memory.
func TestNewMemory(t *testing.T) {
	s := start(t, busy)
	events, _ := s.Run(busyPicks[:14]...)
	ahead, kept := stands(s), s.Copy()
	for _, ev := range events {
		spoilList(ev.Accesses, api.Access{Cell: 77})
		spoilList(ev.Syncs, api.SyncEvent{Slot: 77})
	}
	spoilList(s.Cells(), 77)
	spoilList(s.Can(), 77)
	for n := range s.Threads() {
		v, _ := s.Thread(n)
		spoilList(v.Locals, 77)
		spoilList(v.Spawned, 77)
	}
	parts := s.Sync()
	parts.Lock(0, 5)
	parts.Send(0, 5)
	parts.Wait(0, 5)
	if stands(s) != ahead || !Same(s, kept) {
		t.Errorf("what was told is of the state: %s", stands(s))
	}
	for _, pick := range busyPicks[14:] {
		a, _ := s.Step(pick)
		b, _ := kept.Step(pick)
		if !reflect.DeepEqual(a, b) {
			t.Fatalf("got %s, want %s", told(a), told(b))
		}
	}
}

// P5.2: picks are not changed, spare room included.
func TestPicksStay(t *testing.T) {
	picks := append(make([]int, 0, 9), -1, 7, 0)
	picks[:9][6] = 55
	start(t, busy).Run(picks...)
	if !slices.Equal(picks, []int{-1, 7, 0}) || picks[:9][6] != 55 || picks[:9][3] != 0 {
		t.Error("picks are", picks[:9])
	}
}

// gone is the state of a text behind these picks.
func gone(t *testing.T, text string, picks ...int) *State {
	t.Helper()
	s := start(t, text)
	if events, _ := s.Run(picks...); len(events) != len(picks) {
		t.Fatalf("%q: only %d events", text, len(events))
	}
	return s
}

// P5.2: Same asks all that is told of a state, and what each thread has still to do, and nothing else.
func TestSame(t *testing.T) {
	for _, c := range []struct {
		what string
		a, b *State
		same bool
	}{
		{"two new ones", start(t, busy), start(t, busy), true},
		{"other names, other texts", start(t, "var x = 1; thread main { let k = x; }"), start(t, "\n var y = 1;\n thread main { let j = y; }"), true},
		{"other statements, none of which is done", start(t, "var x = 1; thread main { let k = x; }"), start(t, "var x = 1; thread main { if x { } let k = 1; }"), false},
		{"other statements of the same numbers", start(t, "var x = 1; thread main { x = 1; x = 2; }"), start(t, "var x = 1; thread main { print 1; join; }"), true},
		{"one in the other, or behind it", start(t, "thread main { if 1 { join; } }"), start(t, "thread main { join; join; }"), false},
		{"behind them what is left is the same", gone(t, "thread main { if 1 { join; } join; }", 0), gone(t, "thread main { join; join; join; }", 0), true},
		{"in a while, and behind it", gone(t, "thread main { while 1 { join; } }", 0), gone(t, "thread main { if 1 { join; } }", 0), false},
		{"in a while, ahead of it", gone(t, "var x = 0; thread main { while x < 2 { x = 0; } join; }", 0, 0), start(t, "var x = 0; thread main { while x < 2 { x = 0; } join; }"), true},
		{"another value", start(t, "var x = 1; thread main { }"), start(t, "var x = 2; thread main { }"), false},
		{"another cell", gone(t, "array a 2; thread main { a[0] = 1; }", 0), gone(t, "array a 2; thread main { a[1] = 1; }", 0), false},
		{"a variable more", start(t, "var x = 0; thread main { }"), start(t, "var x = 0; var y = 0; thread main { }"), false},
		{"a variable, a cell", start(t, "var x = 0; thread main { }"), start(t, "array x 1; thread main { }"), true},
		{"cells of two arrays, of one", start(t, "array x 1; array y 2; thread main { }"), start(t, "array x 3; thread main { }"), true},
		{"another local", gone(t, "thread main { let k = 1; join; }", 0), gone(t, "thread main { let k = 2; join; }", 0), false},
		{"a local more", start(t, "thread main { join; }"), start(t, "thread main { let k = 1; }"), false},
		{"main elsewhere", start(t, "thread main { } thread t { }"), start(t, "thread t { } thread main { }"), false},
		{"another thread that is not there yet", start(t, "thread main { }"), start(t, "thread main { } thread t { join; }"), true},
		{"a mutex more", start(t, "thread main { }"), start(t, "mutex m; thread main { }"), false},
		{"a condition more", start(t, "thread main { }"), start(t, "cond c; thread main { }"), false},
		{"a channel more", start(t, "thread main { }"), start(t, "chan q 1; thread main { }"), false},
		{"another room", start(t, "chan q 2; thread main { }"), start(t, "chan q 1; thread main { }"), false},
		{"a mutex that is taken", gone(t, "mutex m; thread main { lock m; join; }", 0), gone(t, "mutex m; thread main { join; join; }", 0), false},
		{"another mutex", gone(t, "mutex l; mutex m; thread main { lock m; join; }", 0), gone(t, "mutex l; mutex m; thread main { lock l; join; }", 0), false},
		{"another value in a channel", gone(t, "chan q 1; thread main { send q 1; join; }", 0), gone(t, "chan q 1; thread main { send q 2; join; }", 0), false},
		{"how many were sent", gone(t, "chan q 1; var x = 1; thread main { send q 1; recv q x; join; }", 0, 0), gone(t, "chan q 1; var x = 1; thread main { print 1; x = 1; join; }", 0, 0), false},
		{"another one was spawned", gone(t, "thread main { spawn t; } thread t { } thread u { }", 0), gone(t, "thread main { spawn u; } thread t { } thread u { }", 0), false},
		{"spawned by another", gone(t, "thread main { spawn t; spawn t; } thread t { spawn t; }", 0, 0), gone(t, "thread main { spawn t; join; } thread t { spawn t; }", 0, 0), false},
		{"a trap, or none", gone(t, "thread main { print 1 / 0; }", 0), start(t, "thread main { print 1 / 0; }"), false},
		{"another trap", gone(t, "thread main { print 1 / 0; }", 0), gone(t, "array a 1; thread main { print a[1]; }", 0), false},
		{"the same trap, of a statement of the same number", gone(t, "thread main { if 1 { print 1 / 0; } }", 0, 0), gone(t, "thread main { if 0 { } print 1 / 0; }", 0, 0), true},
		{"stuck, or not, by what is next", start(t, "chan q 1; var x = 0; thread main { recv q x; }"), start(t, "chan q 1; var x = 0; thread main { send q x; }"), false},
		{"it goes, or wakes", gone(t, "cond c; mutex m; thread main { spawn t; signal c; join; } thread t { lock m; wait c m; }", 0, 1, 1, 0), gone(t, "cond c; mutex m; thread main { spawn t; signal c; join; } thread t { join; wait c m; }", 0, 1, 0), false},
		{"spawned by another, all else alike", gone(t, "thread main { spawn t; print 1; print 2; } thread t { spawn e; print 3; } thread e { }", 0, 0, 1), gone(t, "thread main { spawn t; spawn e; print 2; } thread t { print 1; print 3; } thread e { }", 0, 0, 1), false},
		{"it waits, or wakes", gone(t, "cond c; mutex m; thread main { spawn t; signal c; signal c; join; } thread t { lock m; wait c m; }", 0, 1, 1, 0), gone(t, "cond c; cond d; mutex m; thread main { spawn t; signal d; signal c; join; } thread t { lock m; wait c m; }", 0, 1, 1, 0), false},
	} {
		if Same(c.a, c.b) != c.same || Same(c.b, c.a) != c.same || !Same(c.a, c.a) || !Same(c.b, c.b) {
			t.Errorf("%s: %v, want %v:\n%s\n%s", c.what, !c.same, c.same, stands(c.a), stands(c.b))
		}
	}
}

// P5.2: what a thread has still to do is asked behind what is next, too.
func TestSameAsksAllThatIsLeft(t *testing.T) {
	const text = "var x = 0; thread main { while x < 1 { if x { join; } x = x + 0; } print x; }"
	s := gone(t, text, 0)
	u := gone(t, "var x = 0; thread main { if x < 1 { if x { join; } x = x + 0; } print x; }", 0)
	a, _ := s.Thread(0)
	b, _ := u.Thread(0)
	if !reflect.DeepEqual(a, b) || Same(s, u) {
		t.Errorf("%+v, %+v, the same: %v", a, b, Same(s, u))
	}
}
