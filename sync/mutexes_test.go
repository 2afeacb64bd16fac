package sync

import (
	"slices"
	"testing"

	"warp/api"
)

// P4.2 to P4.4: the chapter's examples.
func TestChapterExamples(t *testing.T) {
	wantRow(t, mustMake(t, 1, 1, 1), lock(0, 1), "true OK", lock(0, 2), "false OK", lock(0, 1), "false OK", owner(0), "1 OK", unlock(0, 2), "error 140", unlock(0, 1), "OK", owner(0), "-1 OK")
	wantRow(t, mustMake(t, 1, 1, 1), wait(0, 3), "OK", wait(0, 1), "OK", wait(0, 3), "error 141", signal(0), "3 true OK", all(0), "[1] OK", signal(0), "0 false OK")
	wantRow(t, mustMake(t, 1, 1, 1), send(0, 7), "0 true OK", send(0, 8), "0 false OK", recv(0), "7 0 true OK", recv(0), "0 0 false OK", send(0, 9), "1 true OK", lock(1, 0), "false error 4")
}

// P4.2, P4.5: each thread has each mutex as its only owner, until it unlocks it.
func TestLockAndUnlock(t *testing.T) {
	s := mustMake(t, 3, 0)
	for m := range 3 {
		for x := range api.MaxThreads {
			has := told(x, api.OK)
			wantRow(t, s, lock(m, x), "true OK", owner(m), has)
			for y := range api.MaxThreads {
				wantRow(t, s, lock(m, y), "false OK", owner(m), has)
				if y != x {
					wantRow(t, s, unlock(m, y), "error 140", owner(m), has)
				}
			}
			wantRow(t, s, unlock(m, x), "OK", owner(m), "-1 OK", unlock(m, x), "error 140", owner(m), "-1 OK")
		}
	}
}

// P4.2: one thread may have many, each by itself.
func TestManyMutexes(t *testing.T) {
	s := mustMake(t, 64, 0)
	for m := range 64 {
		wantRow(t, s, lock(m, m%3), "true OK")
	}
	for m := range 64 {
		wantRow(t, s, owner(m), told(m%3, api.OK), unlock(m, (m+1)%3), "error 140")
	}
	wantRow(t, s, unlock(63, 0), "OK", owner(63), "-1 OK", owner(62), "2 OK", owner(0), "0 OK", lock(63, 7), "true OK", owner(63), "7 OK")
}

// P4.2: who waits, and what is sent, is nothing to a mutex.
func TestMutexesAlone(t *testing.T) {
	wantRow(t, busy(t), lock(0, 4), "true OK", unlock(1, 5), "OK", lock(1, 6), "true OK", waits(0), "[6] OK", waits(1), "[4 0] OK", values(0), "[-8] OK")
}

// Each error counts ahead of those behind it, and nothing is changed beside one.
func TestErrorsInOrder(t *testing.T) {
	for _, name := range allNames {
		for _, n := range append([]int{0, 1, 2, 3}, farNumbers...) {
			for _, x := range append([]int{0, 4, 5, 7}, noThreads...) {
				for _, v := range append(noValues, someValues...) {
					c := call{name, n, x, v}
					wantFault(t, "of nil: "+c.String(), api.ErrNil, c.of(nil)...)
					wantFault(t, "of zero: "+c.String(), api.ErrNil, c.of(new(Sync))...)
					wantFault(t, "of no parts: "+c.String(), api.ErrRange, c.of(mustMake(t, 0, 0))...)
					checkBusyFault(t, c)
				}
			}
		}
	}
}

// checkBusyFault makes a call of busy, in which there are two of each kind.
func checkBusyFault(t *testing.T, c call) {
	t.Helper()
	takesThread := slices.Contains([]string{"Lock", "Unlock", "Wait"}, c.name)
	fault := api.OK
	switch {
	case c.n != 0 && c.n != 1:
		fault = api.ErrRange
	case takesThread && slices.Contains(noThreads, c.t), c.name == "Send" && slices.Contains(noValues, c.v):
		fault = api.ErrArg
	case c.name == "Unlock" && (c.n != 1 || c.t != 5):
		fault = api.ErrOwner
	case c.name == "Wait" && (c.t == 0 || c.t == 4):
		fault = api.ErrWaits
	}
	s := busy(t)
	l := c.of(s)
	if fault == api.OK {
		if l[len(l)-1] != api.OK {
			t.Errorf("%v: %s", c, told(l...))
		}
		return
	}
	wantFault(t, c.String(), fault, l...)
	if !Same(s, busy(t)) {
		t.Errorf("%v: changed beside an error", c)
	}
}

// The calls that only tell change nothing, whatever they are given.
func TestTellingChangesNothing(t *testing.T) {
	s := busy(t)
	for _, name := range []string{"Owner", "Waits", "Values", "Room"} {
		for _, n := range append([]int{0, 1, 2}, farNumbers...) {
			call{name: name, n: n}.of(s)
		}
	}
	Same(s, nil)
	s.Copy()
	if !Same(s, busy(t)) {
		t.Error("changed")
	}
}
