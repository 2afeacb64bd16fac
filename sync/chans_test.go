package sync

import (
	"slices"
	"testing"

	"warp/api"
)

// P4.4: for each room as many values as it is for, and no more.
func TestRooms(t *testing.T) {
	for n := 1; n <= api.MaxRoom; n++ {
		s := mustMake(t, 0, 0, n)
		var sent []int64
		for i := range n {
			wantRow(t, s, send(0, int64(10*i)), told(i, true, api.OK))
			sent = append(sent, int64(10*i))
			wantRow(t, s, values(0), told(sent, api.OK), room(0), told(n, api.OK))
		}
		wantRow(t, s, send(0, 5), "0 false OK", send(0, 6), "0 false OK", values(0), told(sent, api.OK))
		for i := range n {
			wantRow(t, s, recv(0), told(10*i, i, true, api.OK), values(0), told(sent[i+1:], api.OK), room(0), told(n, api.OK))
		}
		wantRow(t, s, recv(0), "0 0 false OK", recv(0), "0 0 false OK", send(0, 5), told(n, true, api.OK))
	}
}

// P4.4, P4.5: numbers rise by one, whatever was refused, taken or not there between.
func TestNumbersRise(t *testing.T) {
	s := mustMake(t, 0, 0, 2, 2)
	for i := 0; i < 3000; i += 2 {
		wantRow(t, s,
			send(0, int64(-i)), told(i, true, api.OK), send(0, int64(i)), told(i+1, true, api.OK), send(0, 9), "0 false OK", send(0, 1<<31), "0 false error 2",
			recv(0), told(-i, i, true, api.OK), recv(0), told(i, i+1, true, api.OK), recv(0), "0 0 false OK")
	}
	wantRow(t, s, send(1, 4), "0 true OK", recv(1), "4 0 true OK", send(0, 4), "3000 true OK", send(1, 4), "1 true OK", recv(0), "4 3000 true OK")
}

// P4.4: all values may be sent, and none beyond them; a full channel refuses those all the same.
func TestValuesThatMayBe(t *testing.T) {
	s := mustMake(t, 0, 0, 1)
	for i, v := range someValues {
		wantRow(t, s, send(0, v), told(i, true, api.OK), values(0), told([]int64{v}, api.OK))
		for _, none := range noValues {
			wantRow(t, s, send(0, none), "0 false error 2")
		}
		wantRow(t, s, recv(0), told(v, i, true, api.OK))
		for _, none := range noValues {
			wantRow(t, s, send(0, none), "0 false error 2", values(0), "[] OK")
		}
	}
}

// P4.4: each channel by itself.
func TestManyChannels(t *testing.T) {
	s := mustMake(t, 0, 0, slices.Repeat([]int{1, 2}, 32)...)
	for q := range 64 {
		wantRow(t, s, room(q), told(1+q%2, api.OK), send(q, int64(q)), "0 true OK")
	}
	for q := range 64 {
		wantRow(t, s, values(q), told([]int{q}, api.OK), send(q, 1), told(q%2, q%2 == 1, api.OK))
	}
	wantRow(t, s, recv(63), "63 0 true OK", values(63), "[1] OK", values(62), "[62] OK", values(61), "[61 1] OK")
}

// P4.4: a value that was received is in it no more, be it that another one is like it.
func TestEachOnce(t *testing.T) {
	wantRow(t, mustMake(t, 0, 0, 3), send(0, 4), "0 true OK", send(0, 4), "1 true OK", send(0, 5), "2 true OK",
		recv(0), "4 0 true OK", values(0), "[4 5] OK", send(0, 4), "3 true OK", recv(0), "4 1 true OK", recv(0), "5 2 true OK", recv(0), "4 3 true OK", recv(0), "0 0 false OK")
}

// P4.4: what is told of values is new memory.
func TestValuesIsNew(t *testing.T) {
	s := mustMake(t, 0, 0, 4)
	wantRow(t, s, send(0, 1), "0 true OK", send(0, 2), "1 true OK", send(0, 3), "2 true OK")
	first, _ := s.Values(0)
	second, _ := s.Values(0)
	spoil(first)
	if !slices.Equal(second, []int64{1, 2, 3}) {
		t.Error("answers share memory:", second)
	}
	wantRow(t, s, recv(0), "1 0 true OK", send(0, 4), "3 true OK", values(0), "[2 3 4] OK")
	if !slices.Equal(second, []int64{1, 2, 3}) {
		t.Error("what was told is changed:", second)
	}
	spoil(second)
	wantRow(t, s, send(0, 5), "4 true OK", values(0), "[2 3 4 5] OK")
}
