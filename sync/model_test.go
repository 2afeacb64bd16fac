package sync

import (
	"slices"
	"testing"

	"warp/api"
)

// The model reads the chapter in another way: it keeps no owners, no queues, just the calls that did something, in order, and works out of these how all stands each time that it is asked.

// model is what was laid, and what was done.
type model struct {
	mutexes, conds int
	rooms          []int
	did            []call
}

func (m model) copied() model {
	m.did = slices.Clone(m.did)
	return m
}

// owner is that of the last lock, if nothing was unlocked behind it.
func (m model) owner(n int) int {
	x := -1
	for _, c := range m.did {
		if c.n == n && c.name == "Lock" {
			x = c.t
		}
		if c.n == n && c.name == "Unlock" {
			x = -1
		}
	}
	return x
}

// waits are those who came, less as many of the first ones as were woken.
func (m model) waits(n int) []int {
	var came []int
	woken := 0
	for _, c := range m.did {
		if c.n == n && c.name == "Wait" {
			came = append(came, c.t)
		}
		if c.n == n && c.name == "Signal" {
			woken++
		}
	}
	return came[woken:]
}

// values are all that were ever sent, and how many of these were received.
func (m model) values(n int) ([]int64, int) {
	var sent []int64
	received := 0
	for _, c := range m.did {
		if c.n == n && c.name == "Send" {
			sent = append(sent, c.v)
		}
		if c.n == n && c.name == "Recv" {
			received++
		}
	}
	return sent, received
}

// waiting are all who wait.
func (m model) waiting() []int {
	var l []int
	for n := range m.conds {
		l = append(l, m.waits(n)...)
	}
	return l
}

// refused tells the first error that applies.
func (m model) refused(c call) api.Errno {
	parts := map[string]int{"Owner": m.mutexes, "Lock": m.mutexes, "Unlock": m.mutexes, "Wait": m.conds, "Waits": m.conds, "Signal": m.conds, "All": m.conds}
	most, other := parts[c.name]
	if !other {
		most = len(m.rooms)
	}
	thread := c.name == "Lock" || c.name == "Unlock" || c.name == "Wait"
	faults := []struct {
		applies func() bool
		fault   api.Errno
	}{
		{func() bool { return c.n < 0 || c.n >= most }, api.ErrRange},
		{func() bool { return thread && (c.t < 0 || c.t >= 8) }, api.ErrArg},
		{func() bool { return c.name == "Send" && int64(int32(c.v)) != c.v }, api.ErrArg},
		{func() bool { return c.name == "Unlock" && m.owner(c.n) != c.t }, api.ErrOwner},
		{func() bool { return c.name == "Wait" && slices.Contains(m.waiting(), c.t) }, api.ErrWaits},
	}
	for _, f := range faults {
		if f.applies() {
			return f.fault
		}
	}
	return api.OK
}

// do tells what a call answers, and notes what it did.
func (m *model) do(c call) string {
	fault := m.refused(c)
	none := fault != api.OK
	switch c.name {
	case "Owner":
		if none {
			return told(0, fault)
		}
		return told(m.owner(c.n), fault)
	case "Lock":
		done := !none && m.owner(c.n) < 0
		m.note(c, done)
		return told(done, fault)
	case "Unlock", "Wait":
		m.note(c, !none)
		return told(fault)
	case "Waits":
		if none {
			return told([]int{}, fault)
		}
		return told(m.waits(c.n), fault)
	}
	if none {
		return told(map[string][]any{"Signal": {0, false}, "All": {[]int{}}, "Send": {0, false}, "Recv": {0, 0, false}, "Values": {[]int{}}, "Room": {0}}[c.name]...) + " " + told(fault)
	}
	return m.doThere(c)
}

// doThere is do of the calls that answer more than an error, where there is none.
func (m *model) doThere(c call) string {
	switch c.name {
	case "Room":
		return told(m.rooms[c.n], api.OK)
	case "Signal", "All":
		l := m.waits(c.n)
		if c.name == "All" {
			for range l {
				m.note(call{name: "Signal", n: c.n}, true)
			}
			return told(l, api.OK)
		}
		m.note(c, len(l) > 0)
		return told(append(l, 0)[0], len(l) > 0, api.OK)
	}
	sent, received := m.values(c.n)
	switch c.name {
	case "Send":
		if len(sent)-received == m.rooms[c.n] {
			return told(0, false, api.OK)
		}
		m.note(c, true)
		return told(len(sent), true, api.OK)
	case "Recv":
		if len(sent) == received {
			return told(0, 0, false, api.OK)
		}
		m.note(c, true)
		return told(sent[received], received, true, api.OK)
	}
	return told(sent[received:], api.OK)
}

func (m *model) note(c call, done bool) {
	if done {
		m.did = append(m.did, c)
	}
}

// all tells all that there is, and how much was sent.
func (m model) all() string {
	text := told(m.mutexes, m.conds, m.rooms)
	for n := range m.mutexes {
		text += told(",", m.owner(n))
	}
	for n := range m.conds {
		text += told(",", m.waits(n))
	}
	for n := range m.rooms {
		sent, received := m.values(n)
		text += told(",", sent[received:], len(sent))
	}
	return text
}

// pair is a Sync, and the model of it.
type pair struct {
	is  *Sync
	was model
}

func mustPair(t *testing.T, mutexes, conds int, rooms ...int) pair {
	t.Helper()
	return pair{mustMake(t, mutexes, conds, rooms...), model{mutexes: mutexes, conds: conds, rooms: rooms}}
}

func (p pair) copied() pair { return pair{p.is.Copy(), p.was.copied()} }

// check makes a call of both.
func (p *pair) check(t *testing.T, c call) {
	t.Helper()
	expected := p.was.do(c)
	if got := told(c.of(p.is)...); got != expected {
		t.Fatalf("%v behind %v: got %q, want %q", c, p.was.did, got, expected)
	}
}

// checkAll asks for all that the calls that change nothing tell.
func (p *pair) checkAll(t *testing.T) {
	t.Helper()
	for _, name := range []string{"Owner", "Waits", "Values", "Room"} {
		for n := -1; n <= 3; n++ {
			p.check(t, call{name: name, n: n})
		}
	}
}

// P4.1 to P4.5: all short rows of calls, each row on a copy of what was there ahead of its last call, against the model.
func TestAllShortRows(t *testing.T) {
	calls := []call{
		lock(0, 0), lock(0, 1), unlock(0, 0), unlock(0, 1), wait(0, 0), wait(0, 1), wait(1, 0), wait(1, 2), signal(0), signal(1), all(0), all(1),
		send(0, 3), send(0, -4), recv(0), send(1, 5), recv(1), lock(1, 0), wait(0, 8), send(0, 1<<31),
	}
	rows := 0
	var grow func(p pair, left int)
	grow = func(p pair, left int) {
		for _, c := range calls {
			q := p.copied()
			q.check(t, c)
			q.checkAll(t)
			rows++
			if Same(p.is, q.is) != (p.was.all() == q.was.all()) {
				t.Fatalf("%v behind %v: the same: %v", c, p.was.did, Same(p.is, q.is))
			}
			if left > 1 {
				grow(q, left-1)
			}
		}
		p.checkAll(t)
	}
	grow(mustPair(t, 1, 2, 1, 2), 3)
	if rows != 20+400+8000 {
		t.Error(rows, "rows")
	}
}

// chooser picks numbers, the same ones each time.
type chooser struct{ state uint64 }

func (c *chooser) below(n int) int {
	c.state ^= c.state << 13
	c.state ^= c.state >> 7
	c.state ^= c.state << 17
	return int(c.state % uint64(n))
}

// one picks one of a list.
func one[T any](c *chooser, l []T) T { return l[c.below(len(l))] }

// call picks a call, most of which may be.
func (c *chooser) call() call {
	x := call{name: one(c, allNames), n: c.below(3), t: c.below(8), v: one(c, someValues)}
	switch c.below(20) {
	case 0:
		x.n = one(c, farNumbers)
	case 1:
		x.t = one(c, noThreads)
	case 2:
		x.v = one(c, noValues)
	}
	return x
}

// P4.1 to P4.5: long rows of calls of several that were copied of each other, against the model.
func TestLongRows(t *testing.T) {
	c := chooser{88172645463325252}
	same, other := 0, 0
	for range 60 {
		made := mustPair(t, c.below(4), c.below(4), slices.Repeat([]int{1 + c.below(3)}, c.below(4))...)
		pairs := []pair{made, made.copied(), made.copied()}
		for range 300 {
			p := &pairs[c.below(3)]
			switch c.below(12) {
			case 0:
				*p = pairs[c.below(3)].copied()
			default:
				p.check(t, c.call())
			}
			a, b := pairs[c.below(3)], pairs[c.below(3)]
			alike := a.was.all() == b.was.all()
			if Same(a.is, b.is) != alike {
				t.Fatalf("%v and %v: the same: %v", a.was.did, b.was.did, !alike)
			}
			if alike {
				same++
			} else {
				other++
			}
		}
		for i := range pairs {
			pairs[i].checkAll(t)
		}
	}
	if same < 1000 || other < 1000 {
		t.Error("same", same, "other", other)
	}
}

// P4.5: by whatever calls: what is received was sent, in order, each once, by numbers that rise by one; who is woken came, in order, each once; a mutex is locked again just behind an unlock.
func TestWhatFollows(t *testing.T) {
	c := chooser{7046029254386353131}
	for range 40 {
		s := mustMake(t, 2, 2, 1, 1+c.below(16))
		var sent, received [2][]int64
		var came, woken [2][]int
		owners := [2]int{-1, -1}
		for range 2000 {
			x := call{name: one(&c, allNames), n: c.below(2), t: c.below(8), v: int64(c.below(5)) - 2}
			l := x.of(s)
			switch {
			case x.name == "Lock" && l[0] == true:
				if owners[x.n] != -1 {
					t.Fatalf("%v: %d has it already", x, owners[x.n])
				}
				owners[x.n] = x.t
			case x.name == "Unlock" && l[0] == api.OK:
				if owners[x.n] != x.t {
					t.Fatalf("%v: %d has it", x, owners[x.n])
				}
				owners[x.n] = -1
			case x.name == "Send" && l[1] == true:
				if l[0] != len(sent[x.n]) {
					t.Fatalf("%v: %s, behind %d values", x, told(l...), len(sent[x.n]))
				}
				sent[x.n] = append(sent[x.n], x.v)
			case x.name == "Recv" && l[2] == true:
				if l[1] != len(received[x.n]) {
					t.Fatalf("%v: %s, behind %d values", x, told(l...), len(received[x.n]))
				}
				received[x.n] = append(received[x.n], l[0].(int64))
			case x.name == "Wait" && l[0] == api.OK:
				came[x.n] = append(came[x.n], x.t)
			case x.name == "Signal" && l[1] == true:
				woken[x.n] = append(woken[x.n], l[0].(int))
			case x.name == "All":
				woken[x.n] = append(woken[x.n], l[0].([]int)...)
			}
		}
		for n := range 2 {
			wantAhead(t, sent[n], received[n])
			wantAhead(t, came[n], woken[n])
		}
	}
}

// wantAhead fails unless a list begins as another one, which is longer by no more than fits.
func wantAhead[T comparable](t *testing.T, long, short []T) {
	t.Helper()
	if len(short) < 20 || len(short) > len(long) || len(long)-len(short) > api.MaxRoom || !slices.Equal(long[:len(short)], short) {
		t.Errorf("%v, and %v", long, short)
	}
}
