package sync

import (
	"math"
	"slices"
	"testing"

	"warp/api"
)

// P4.1: nobody owns, nobody waits, nothing is sent; as many of each as was asked for.
func TestNewIsEmpty(t *testing.T) {
	s := mustMake(t, 2, 3, 1, 16, 7)
	want(t, "all", stands(s, 2, 3, 3), "-1 OK, -1 OK, [] OK, [] OK, [] OK, [] OK for 1 OK, [] OK for 16 OK, [] OK for 7 OK, ")
	for c, fault := range map[call]api.Errno{
		owner(2): api.ErrRange, waits(3): api.ErrRange, values(3): api.ErrRange, room(3): api.ErrRange, recv(3): api.ErrRange,
		signal(2): api.OK, all(2): api.OK, recv(2): api.OK, lock(1, 7): api.OK, send(2, 1): api.OK, wait(2, 0): api.OK,
	} {
		if l := c.of(s); l[len(l)-1] != fault {
			t.Errorf("%v: %v, want %d", c, told(l...), fault)
		}
	}
}

// P4.1: each kind has a number of its own, none at all too.
func TestNewOfEachKind(t *testing.T) {
	for _, kinds := range [][3]int{{0, 0, 0}, {1, 0, 0}, {0, 1, 0}, {0, 0, 1}, {64, 0, 0}, {0, 64, 0}, {0, 0, 64}, {64, 64, 64}, {63, 2, 5}} {
		s := mustMake(t, kinds[0], kinds[1], slices.Repeat([]int{3}, kinds[2])...)
		for i, c := range []func(int) call{owner, waits, values} {
			for n := range 66 {
				l := c(n).of(s)
				if there := l[1] == api.OK; there != (n < kinds[i]) {
					t.Errorf("of %v: %v: %s", kinds, c(n), told(l...))
				}
			}
		}
	}
}

// P4.1: as many as may be, and one more; below 0, and huge.
func TestNewRefuses(t *testing.T) {
	most := slices.Repeat([]int{1}, api.MaxNames)
	mustMake(t, api.MaxNames, api.MaxNames, most...)
	refused := func(mutexes, conds int, rooms ...int) {
		t.Helper()
		if s, fault := New(mutexes, conds, rooms...); s != nil || fault != api.ErrArg {
			t.Errorf("New(%d, %d, %v): %v, error %d", mutexes, conds, rooms, s, fault)
		}
	}
	refused(0, 0, append(most, 1)...)
	refused(0, 0, slices.Repeat([]int{1}, 1<<16)...)
	for _, n := range farNumbers {
		refused(n, 0)
		refused(0, n)
		refused(n, n)
		refused(n, 64, 1)
		refused(1, n, 1, 2)
		refused(n, 0, 0)
	}
}

// P4.1: rooms of all sizes, at each place.
func TestNewRooms(t *testing.T) {
	for n := -3; n < 40; n++ {
		for place := range 4 {
			rooms := []int{5, 1, 16, 2}
			rooms[place] = n
			s, fault := New(1, 1, rooms...)
			if may := 1 <= n && n <= 16; may != (fault == api.OK) || may != (s != nil) || !may && fault != api.ErrArg {
				t.Errorf("%v: %v, error %d", rooms, s, fault)
			}
			for i, r := range rooms {
				if got, _ := s.Room(i); s != nil && got != r {
					t.Errorf("%v: room %d is for %d", rooms, i, got)
				}
			}
		}
	}
	for _, n := range []int{math.MinInt, math.MinInt32, 1 << 31, 1<<32 + 1, math.MaxInt} {
		if s, fault := New(0, 0, 1, n); s != nil || fault != api.ErrArg {
			t.Errorf("a room of %d: %v, error %d", n, s, fault)
		}
	}
}

// P4.1: rooms that are handed in are neither changed nor kept.
func TestNewKeepsNothing(t *testing.T) {
	rooms := append(make([]int, 0, 8), 2, 3)
	s := mustMake(t, 0, 0, rooms...)
	wantRow(t, s, send(0, 1), "0 true OK", send(0, 1), "1 true OK")
	if !slices.Equal(rooms[:8], []int{2, 3, 0, 0, 0, 0, 0, 0}) {
		t.Error(rooms[:8])
	}
	clear(rooms[:8])
	wantRow(t, s, room(0), "2 OK", room(1), "3 OK", send(0, 1), "0 false OK", send(1, 1), "0 true OK")
}

// busy is a Sync in which there is something of each kind.
func busy(t *testing.T) *Sync {
	t.Helper()
	s := mustMake(t, 2, 2, 2, 3)
	for _, c := range []call{lock(1, 5), wait(1, 4), wait(0, 6), wait(1, 0), send(0, 7), send(0, -8), recv(0), send(1, 9)} {
		if l := c.of(s); l[len(l)-1] != api.OK {
			t.Fatal(c, told(l...))
		}
	}
	return s
}

// changes are calls behind which busy stands as behind no other row of them; behind the last ones just in the numbers that are to come.
var changes = [][]call{
	{lock(0, 0)}, {unlock(1, 5)}, {unlock(1, 5), lock(1, 4)}, {wait(0, 1)}, {wait(1, 1)}, {signal(0)}, {signal(1)}, {all(1)},
	{all(1), wait(1, 0), wait(1, 4)}, {send(0, 1)}, {send(1, 9)}, {recv(0)}, {recv(1)}, {recv(0), send(0, -9)}, {recv(1), recv(1), send(1, 8)},
	{send(0, -8), recv(0)}, {recv(1), send(1, 9)},
}

// P4.1: a copy stands alike and goes on apart, whichever of both goes on.
func TestCopyGoesOnApart(t *testing.T) {
	for _, l := range changes {
		for other := range 2 {
			pair := [2]*Sync{busy(t), nil}
			pair[1] = pair[0].Copy()
			if pair[0] == pair[1] || !Same(pair[0], pair[1]) {
				t.Fatal("a copy does not stand alike")
			}
			goes, stays := pair[other], pair[1-other]
			ahead := stands(busy(t), 2, 2, 2)
			for _, c := range l {
				c.of(goes)
			}
			want(t, "what stays", stands(stays, 2, 2, 2), ahead)
			if Same(goes, stays) || Same(stays, goes) || !Same(stays, busy(t)) {
				t.Errorf("%v: the copy is the same still", l)
			}
			for _, c := range l {
				c.of(stays)
			}
			if !Same(goes, stays) {
				t.Errorf("%v: both went on alike and are not the same", l)
			}
		}
	}
}

// P4.1: a copy has all that its first one has, the numbers to come too.
func TestCopyHasAll(t *testing.T) {
	s := busy(t).Copy().Copy()
	wantRow(t, s,
		owner(0), "-1 OK", owner(1), "5 OK", waits(0), "[6] OK", waits(1), "[4 0] OK", values(0), "[-8] OK", values(1), "[9] OK",
		room(0), "2 OK", room(1), "3 OK", wait(0, 4), "error 141", unlock(1, 4), "error 140", recv(0), "-8 1 true OK", send(0, 3), "2 true OK", send(1, 3), "1 true OK")
}

// P4.1: nil of nil, and of one that no call made.
func TestCopyOfNothing(t *testing.T) {
	if s := (*Sync)(nil).Copy(); s != nil {
		t.Error(s)
	}
	if s := new(Sync).Copy(); s != nil {
		t.Error(s)
	}
	if s := mustMake(t, 0, 0).Copy(); s == nil || !Same(s, mustMake(t, 0, 0)) {
		t.Error("of one without parts")
	}
}

// P4.1: the same are those that stand alike, and a nil one is like a nil one alone.
func TestSame(t *testing.T) {
	makers := []func() *Sync{
		func() *Sync { return mustMake(t, 0, 0) },
		func() *Sync { return mustMake(t, 1, 0) },
		func() *Sync { return mustMake(t, 0, 1) },
		func() *Sync { return mustMake(t, 0, 0, 1) },
		func() *Sync { return mustMake(t, 2, 0) },
		func() *Sync { return mustMake(t, 0, 0, 2) },
		func() *Sync { return mustMake(t, 0, 0, 1, 2) },
		func() *Sync { return mustMake(t, 0, 0, 2, 1) },
		func() *Sync { return mustMake(t, 2, 2, 2, 3) },
		func() *Sync { return nil },
	}
	for _, l := range changes {
		makers = append(makers, func() *Sync {
			s := busy(t)
			for _, c := range l {
				c.of(s)
			}
			return s
		})
	}
	for i, x := range makers {
		for j, y := range makers {
			if Same(x(), y()) != (i == j) {
				t.Errorf("%d and %d: %v", i, j, Same(x(), y()))
			}
		}
		if s := x(); !Same(s, s) {
			t.Errorf("%d is not the same as itself", i)
		}
	}
	if !Same(nil, new(Sync)) || !Same(new(Sync), nil) || !Same(new(Sync), new(Sync)) || Same(new(Sync), mustMake(t, 0, 0)) || Same(mustMake(t, 0, 0), new(Sync)) {
		t.Error("one that no call made is as a nil one")
	}
}

// P4.1: how they came to stand so is not asked, but for how much was sent.
func TestSameByOtherWays(t *testing.T) {
	s, r := mustMake(t, 1, 2, 2), mustMake(t, 1, 2, 2)
	wantRow(t, s, lock(0, 3), "true OK", unlock(0, 3), "OK", wait(0, 1), "OK", wait(1, 2), "OK", signal(0), "1 true OK", signal(1), "2 true OK", signal(1), "0 false OK")
	if !Same(s, r) {
		t.Error("what was locked and woken is not as it was")
	}
	wantRow(t, s, send(0, 5), "0 true OK", recv(0), "5 0 true OK", values(0), "[] OK")
	if Same(s, r) {
		t.Error("how much was sent is asked")
	}
	wantRow(t, r, send(0, 6), "0 true OK", recv(0), "6 0 true OK")
	if !Same(s, r) {
		t.Error("what was sent and received is not asked")
	}
	wantRow(t, r, send(0, 6), "1 true OK", send(0, 6), "2 true OK", send(0, 6), "0 false OK")
	wantRow(t, s, send(0, 6), "1 true OK", send(0, 6), "2 true OK")
	if !Same(s, r) {
		t.Error("what found no room was sent")
	}
}
