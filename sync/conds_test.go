package sync

import (
	"slices"
	"testing"

	"warp/api"
)

// P4.3, P4.5: who waits is woken in the order of coming, one by one.
func TestSignalInOrder(t *testing.T) {
	s := mustMake(t, 0, 2)
	came := []int{5, 0, 7, 2, 1, 6, 3, 4}
	for i, x := range came {
		wantRow(t, s, waits(0), told(came[:i], api.OK), wait(0, x), "OK", waits(0), told(came[:i+1], api.OK), waits(1), "[] OK")
	}
	for i, x := range came {
		wantRow(t, s, signal(1), "0 false OK", signal(0), told(x, true, api.OK), waits(0), told(came[i+1:], api.OK))
	}
	wantRow(t, s, signal(0), "0 false OK", signal(0), "0 false OK")
}

// P4.3, P4.5: all are woken in the order of coming, those of that condition alone.
func TestAllInOrder(t *testing.T) {
	s := mustMake(t, 0, 3)
	wantRow(t, s, all(0), "[] OK", wait(0, 7), "OK", wait(1, 3), "OK", wait(0, 2), "OK", wait(0, 4), "OK", wait(2, 0), "OK",
		all(0), "[7 2 4] OK", waits(0), "[] OK", all(0), "[] OK", waits(1), "[3] OK", waits(2), "[0] OK", signal(0), "0 false OK", all(2), "[0] OK", all(1), "[3] OK")
	for x := range api.MaxThreads {
		wantRow(t, s, wait(1, api.MaxThreads-1-x), "OK")
	}
	wantRow(t, s, all(1), "[7 6 5 4 3 2 1 0] OK", waits(1), "[] OK")
}

// P4.3: a thread waits at one condition at most; once it is woken it may wait again, behind all others.
func TestWaitsAlready(t *testing.T) {
	s := mustMake(t, 0, 64)
	for x := range api.MaxThreads {
		wantRow(t, s, wait(60-x, x), "OK")
		for c := range 64 {
			wantRow(t, s, wait(c, x), "error 141")
		}
		wantRow(t, s, waits(60-x), told([]int{x}, api.OK))
	}
	wantRow(t, s, signal(60), "0 true OK", wait(59, 0), "OK", waits(59), "[1 0] OK", wait(60, 0), "error 141",
		signal(59), "1 true OK", wait(59, 1), "OK", waits(59), "[0 1] OK", all(59), "[0 1] OK", wait(63, 1), "OK", wait(0, 0), "OK", waits(63), "[1] OK", waits(0), "[0] OK")
}

// P4.3: what is told of who waits is new memory.
func TestWaitsIsNew(t *testing.T) {
	s := busy(t)
	first, _ := s.Waits(1)
	second, _ := s.Waits(1)
	spoil(first)
	if !slices.Equal(second, []int{4, 0}) || !Same(s, busy(t)) {
		t.Error("answers share memory:", second)
	}
	woken, _ := s.All(1)
	wantRow(t, s, wait(1, 1), "OK", wait(1, 2), "OK", wait(1, 3), "OK")
	if !slices.Equal(woken, []int{4, 0}) {
		t.Error("what was told is changed:", woken)
	}
	spoil(woken)
	wantRow(t, s, waits(1), "[1 2 3] OK")
}

// spoil changes all that a list holds, spare room included.
func spoil[T int | int64](l []T) {
	l = l[:cap(l)]
	for i := range l {
		l[i] = 77
	}
}

// P4.3: mutexes are nothing to a condition: who waits need not have one.
func TestConditionsAlone(t *testing.T) {
	wantRow(t, busy(t), wait(0, 5), "OK", owner(1), "5 OK", all(0), "[6 5] OK", owner(1), "5 OK", wait(1, 7), "OK", signal(1), "4 true OK", owner(0), "-1 OK")
}
