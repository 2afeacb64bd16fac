package source

import (
	"fmt"
	"reflect"
	"slices"
	"strings"
	"testing"

	"warp/api"
)

// apart is a program of three threads beside main that have nothing in common.
const apart = `var x = 1; var y = 2; var z = 3; array a 3; array b 3; mutex l; mutex m; cond c; chan p 2; chan q 2;
thread main { spawn t; spawn u; spawn v; let k = 1; while k < 5 { k = k * 2; print k; } }
thread t { lock l; let k = x + 1; a[k] = k; unlock l; while x < 4 { x = x + a[2]; send p x; recv p k; print k; } signal c; all c; }
thread u { if y == 2 { b[y] = y; y = b[2] + b[0]; } else { print 9; } send q y; send q y * y; recv q y; spawn w; join; recv q y; print y; }
thread v { lock m; z = z - 1; unlock m; while z { z = z - 1; print z; } z = 7; }
thread w { let k = 4; print k; }`

// rows are the events of each thread, by its declaration, but for numbers of threads, which hang on who spawned first.
func rows(s *State, events []api.Event) map[int]string {
	l := map[int]string{}
	for _, ev := range events {
		v, _ := s.Thread(ev.Thread)
		ev.Thread = 0
		for i := range ev.Syncs {
			if kind := ev.Syncs[i].Kind; kind == api.SyncSpawn || kind == api.SyncJoin {
				ev.Syncs[i].Other = 0
			}
		}
		l[v.Decl] += told(ev) + "\n"
	}
	return l
}

// P5.3: what each thread does that touches nothing of another's is the same, whatever the picks.
func TestApart(t *testing.T) {
	p := mustFind(t, apart)
	s := mustStart(t, p)
	events, o := s.Run(make([]int, 200)...)
	want, cells := rows(s, events), s.Cells()
	if o != done || len(want) != 5 {
		t.Fatalf("outcome %v, %v", o, want)
	}
	c := chooser{88172645463325252}
	for range 500 {
		s := mustStart(t, p)
		var picks []int
		for range 200 {
			picks = append(picks, c.below(1<<40)-1<<39)
		}
		events, o := s.Run(picks...)
		if got := rows(s, events); o != done || !reflect.DeepEqual(got, want) || !slices.Equal(s.Cells(), cells) {
			t.Fatalf("by other picks: outcome %v, %v, cells %v; want %v, cells %v", o, got, s.Cells(), want, cells)
		}
	}
}

// P5.4: in many runs nobody but a thread that goes or wakes takes a mutex, one that ends keeps what it had, and what is received was sent, each once, in order.
func TestOwnersAndValues(t *testing.T) {
	m := maker{chooser: chooser{123456789}}
	kept, received := 0, 0
	for range 1500 {
		p := mustFind(t, m.program())
		s := mustStart(t, p)
		sent, taken := map[int][]int64{}, map[int]int{}
		for n := 0; n < 80; n++ {
			ahead := s.Copy()
			ev, fault := s.Step(m.below(1000))
			if fault != api.OK {
				break
			}
			kept += owners(t, p, ahead, s, ev)
			for _, o := range ev.Syncs {
				now, _ := s.Sync().Values(o.Slot)
				was, _ := ahead.Sync().Values(o.Slot)
				switch o.Kind {
				case api.SyncSend:
					if o.Other != len(sent[o.Slot]) || len(now) != len(was)+1 {
						t.Fatalf("%s: %v, and then %v", told(ev), was, now)
					}
					sent[o.Slot] = append(sent[o.Slot], now[len(was)])
				case api.SyncRecv:
					if o.Other != taken[o.Slot] || was[0] != sent[o.Slot][o.Other] || !slices.Equal(was[1:], now) || !stored(s, ev, was[0]) {
						t.Fatalf("%s: %v of all %v", told(ev), was, sent[o.Slot])
					}
					taken[o.Slot]++
					received++
				}
			}
		}
	}
	if kept < 100 || received < 200 {
		t.Errorf("%d mutexes kept by ended threads, %d values received", kept, received)
	}
}

// stored tells whether what was received stands where it was received into.
func stored(s *State, ev api.Event, v int64) bool {
	if len(ev.Accesses) == 1 {
		a := ev.Accesses[0]
		return a.Write && a.Value == v && s.Cells()[a.Cell] == v
	}
	view, _ := s.Thread(ev.Thread)
	return len(ev.Accesses) == 0 && slices.Contains(view.Locals, v)
}

// owners looks at who has a mutex behind a step, and tells how many are kept by threads that are ended.
func owners(t *testing.T, p api.Prog, ahead, s *State, ev api.Event) int {
	t.Helper()
	kept := 0
	for i := range p.Mutexes {
		was, _ := ahead.Sync().Owner(i)
		now, _ := s.Sync().Owner(i)
		if now >= s.Threads() || was != now && was != -1 && now != -1 || was != now && max(was, now) != ev.Thread {
			t.Fatalf("%s: of the mutex %d the owner was %d, and is %d", told(ev), i, was, now)
		}
		if now < 0 {
			continue
		}
		v, _ := s.Thread(now)
		if v.State != api.ThreadEnded {
			continue
		}
		kept++
		before, _ := ahead.Thread(now)
		if was != now && (before.State == api.ThreadEnded || ev.Thread != now) {
			t.Fatalf("%s: an ended thread took the mutex %d", told(ev), i)
		}
	}
	return kept
}

// P5.4: one that ends with a mutex keeps it; others that want it are stuck.
func TestEndedOwner(t *testing.T) {
	s := start(t, "mutex m; thread main { spawn t; lock m; } thread t { lock m; }")
	steps(t, s).does(0, "0.0 spawn(0,1)").does(1, "1.2 lock(0,0) end(0,0)").can().ends(stuck).is(0, api.ThreadGoes, 1)
	if owner, _ := s.Sync().Owner(0); owner != 1 {
		t.Error("the owner is", owner)
	}
}

// P5.1: the examples of the whole that are of layer 5: with a mutex or without, by whatever picks, x is 2 more.
func TestTwoMore(t *testing.T) {
	for _, body := range []string{"x = x + 1;", "lock m; x = x + 1; unlock m;", "lock m; let k = x; x = k + 1; unlock m;"} {
		p := mustFind(t, "var x = 1; mutex m; thread main { spawn t; "+body+" } thread t { "+body+" }")
		c := chooser{362436069}
		for range 200 {
			s := mustStart(t, p)
			for s.Outcome() == goes {
				s.Step(c.below(100))
			}
			if s.Outcome() != done || s.Cells()[0] != 3 {
				t.Fatalf("%s: %v, %v", body, s.Outcome(), s.Cells())
			}
		}
	}
	seen := map[int64]bool{}
	c := chooser{362436069}
	for range 200 {
		s := start(t, "var x = 1; thread main { spawn t; let k = x; x = k + 1; } thread t { let k = x; x = k + 1; }")
		for s.Outcome() == goes {
			s.Step(c.below(100))
		}
		seen[s.Cells()[0]] = true
	}
	if !reflect.DeepEqual(seen, map[int64]bool{2: true, 3: true}) {
		t.Error("in two steps x is", seen)
	}
}

// P5.1: by all first picks, what a pick below 0 means is what the one means that is as many more as can go on.
func TestPicksModulo(t *testing.T) {
	p := mustFind(t, apart)
	c := chooser{88172645463325252}
	for range 300 {
		var a, b []int
		s := mustStart(t, p)
		for s.Outcome() == goes {
			n, pick := len(s.Can()), c.below(50)
			a, b = append(a, pick), append(b, pick-n*c.below(1000))
			s.Step(pick)
		}
		x, y := mustStart(t, p), mustStart(t, p)
		one, other := toldRun(x, a...), toldRun(y, b...)
		if one != other || !Same(x, y) || !Same(x, s) || strings.Count(one, "\n") != len(a) {
			t.Fatal(fmt.Sprint(a, b), one, other)
		}
	}
}
