package ops

import (
	"math"
	"slices"
	"strings"
	"testing"

	"warp/api"
)

// Numbers below all bounds, and above all.
var farNumbers = []int{-1, -2, math.MinInt32, math.MinInt, 65537, 65538, 1 << 31, 1 << 32, math.MaxInt}

// P6.1: modules that may be, from nothing on.
func TestModulesThatMayBe(t *testing.T) {
	wantOK(t, "nothing", api.Module{})
	wantOK(t, "empty lists", api.Module{Vars: []int64{}, Arrays: []int{}, Chans: []int{}, Threads: []api.Code{}})
	wantOK(t, "all there is", full())
	wantOK(t, "a thread of nothing", inThread(nil, nil))
	wantOK(t, "a thread of empty lists", inThread([]api.Ins{}, []int{}))
	wantOK(t, "two threads of one name", api.Module{Threads: []api.Code{{Name: "t"}, {Name: "t"}}})
	wantOK(t, "what no other layer takes", inThread([]api.Ins{{Code: api.InsVar, A: 9}, {Code: api.InsJump, A: 65535}}, []int{0, 0}))
}

// P6.1: at most 64 of each list, of mutexes and of conditions; all of them may be there at once.
func TestHowMany(t *testing.T) {
	for n := range 70 {
		for what, m := range map[string]api.Module{
			"vars":    {Vars: make([]int64, n)},
			"arrays":  {Arrays: make([]int, n)},
			"chans":   {Chans: slices.Repeat([]int{1}, n)},
			"mutexes": {Mutexes: n},
			"conds":   {Conds: n},
			"threads": {Threads: slices.Repeat([]api.Code{{Name: "t"}}, n)},
		} {
			if n <= 64 {
				wantOK(t, what, m)
			} else {
				wantArg(t, what, m)
			}
		}
	}
	wantOK(t, "64 of each", api.Module{Vars: make([]int64, 64), Arrays: make([]int, 64), Chans: slices.Repeat([]int{1}, 64), Mutexes: 64, Conds: 64, Threads: slices.Repeat([]api.Code{{Name: "t"}}, 64)})
	for _, n := range append([]int{65, 128}, farNumbers...) {
		wantArg(t, "mutexes", api.Module{Mutexes: n})
		wantArg(t, "conds", api.Module{Conds: n})
	}
}

// P6.1: a variable is a value, wherever it stands.
func TestVars(t *testing.T) {
	for n := range 3 {
		for _, v := range someValues {
			l := []int64{1, 2, 3}
			l[n] = v
			wantOK(t, "a value", api.Module{Vars: l})
		}
		for _, v := range noValues {
			l := []int64{1, 2, 3}
			l[n] = v
			wantArg(t, "no value", api.Module{Vars: l})
		}
	}
}

// P6.1: an array has 0 to 256 cells, a channel's room is 1 to 16, wherever it stands.
func TestCellsAndRooms(t *testing.T) {
	cells := []int{0, 1, 127, 128, 255, 256}
	rooms := []int{1, 2, 15, 16}
	for n := range 3 {
		with := func(x int) []int {
			l := []int{1, 1, 1}
			l[n] = x
			return l
		}
		for _, x := range cells {
			wantOK(t, "cells", api.Module{Arrays: with(x)})
		}
		for _, x := range rooms {
			wantOK(t, "a room", api.Module{Chans: with(x)})
		}
		for _, x := range append([]int{257, 512}, farNumbers...) {
			wantArg(t, "cells", api.Module{Arrays: with(x)})
		}
		for _, x := range append([]int{0, 17, 18}, farNumbers...) {
			wantArg(t, "a room", api.Module{Chans: with(x)})
		}
	}
}

// P6.1: a thread's name has 1 to 16 bytes, of any kind; its locals are 0 to 32.
func TestNamesAndLocals(t *testing.T) {
	for n := range 20 {
		m := api.Module{Threads: []api.Code{{Name: "a"}, {Name: strings.Repeat("\xff", n)}, {Name: "b"}}}
		if n >= 1 && n <= 16 {
			wantOK(t, "a name", m)
		} else {
			wantArg(t, "a name", m)
		}
	}
	wantArg(t, "a long name", api.Module{Threads: []api.Code{{Name: strings.Repeat("n", 1<<20)}}})
	for b := range 256 {
		wantOK(t, "a byte", api.Module{Threads: []api.Code{{Name: string([]byte{byte(b)})}}})
	}
	for n := range 33 {
		wantOK(t, "locals", api.Module{Threads: []api.Code{{Name: "t"}, {Name: "t", Locals: n}}})
	}
	for _, n := range append([]int{33, 64, 256}, farNumbers...) {
		wantArg(t, "locals", api.Module{Threads: []api.Code{{Name: "t"}, {Name: "t", Locals: n}}})
		wantArg(t, "locals", api.Module{Threads: []api.Code{{Name: "t", Locals: n}, {Name: "t"}}})
	}
}

// P6.1: a thread has at most 65536 instructions.
func TestHowManyIns(t *testing.T) {
	for _, n := range []int{127, 128, 129, 16383, 16384, 65535, 65536} {
		wantOK(t, "instructions", inThread(slices.Repeat([]api.Ins{{Code: api.InsEnd}}, n), make([]int, n)))
	}
	wantArg(t, "instructions", inThread(slices.Repeat([]api.Ins{{Code: api.InsEnd}}, 65537), make([]int, 65537)))
	many := inThread(slices.Repeat([]api.Ins{{Code: api.InsEnd}}, 65536), make([]int, 65536))
	many.Threads = append(many.Threads, many.Threads[0], many.Threads[0])
	wantOK(t, "several such threads", many)
}

// P6.1: just as many lines as instructions.
func TestHowManyLines(t *testing.T) {
	for i := range 5 {
		for l := range 5 {
			m := inThread(slices.Repeat([]api.Ins{{Code: api.InsEnd}}, i), make([]int, l))
			m.Threads = append([]api.Code{{Name: "main"}}, m.Threads...)
			if i == l {
				wantOK(t, "lines", m)
			} else {
				wantArg(t, "lines", m)
			}
		}
	}
	wantArg(t, "lines alone", inThread(nil, make([]int, 1<<20)))
}

// P6.1: a line is from 0 to 65536, wherever it stands, also as far below the one ahead as may be.
func TestLines(t *testing.T) {
	ins := slices.Repeat([]api.Ins{{Code: api.InsNeg}}, 3)
	for _, lines := range [][]int{{0, 0, 0}, {1, 2, 3}, {3, 2, 1}, {65536, 0, 65536}, {0, 65536, 0}, {65536, 65536, 65536}, {65535, 1, 65536}} {
		wantOK(t, "lines", inThread(ins, lines))
	}
	for n := range 3 {
		for _, x := range farNumbers {
			lines := []int{1, 2, 3}
			lines[n] = x
			wantArg(t, "a line", inThread(ins, lines))
		}
	}
}

// P6.1: what is wrong in any thread, at any place, is seen.
func TestWrongAnywhere(t *testing.T) {
	for thread := range 3 {
		for at := range len(full().Threads[thread].Ins) {
			m := full()
			m.Threads[thread].Ins[at].Code = 35
			wantArg(t, "a code", m)
			m = full()
			m.Threads[thread].Lines[at] = -1
			wantArg(t, "a line", m)
		}
		m := full()
		m.Threads[thread].Name = ""
		wantArg(t, "a name", m)
	}
}

// P6.1: modules are the same part by part; nil and empty are one.
func TestSame(t *testing.T) {
	empty := api.Module{Vars: []int64{}, Arrays: []int{}, Chans: []int{}, Threads: []api.Code{}}
	hollow := inThread([]api.Ins{}, []int{})
	for _, l := range [][2]api.Module{{{}, {}}, {{}, empty}, {empty, {}}, {full(), full()}, {inThread(nil, nil), hollow}, {hollow, inThread(nil, nil)}} {
		if !Same(l[0], l[1]) {
			t.Errorf("%v is not %v", l[0], l[1])
		}
	}
	for _, change := range changes() {
		m := full()
		change(&m)
		if Same(m, full()) || Same(full(), m) {
			t.Errorf("%v is the same as %v", m, full())
		}
		if !Same(m, copied(m)) {
			t.Errorf("%v is not what it is", m)
		}
	}
}

// changes are such as make another module of a full one: each part another one, one more and one less of each list, two of it the other way round. Some make one that may not be.
func changes() []func(m *api.Module) {
	l := []func(m *api.Module){
		func(m *api.Module) { m.Vars[2]++ },
		func(m *api.Module) { m.Vars[0] += 1 << 32 },
		func(m *api.Module) { m.Vars = m.Vars[:2] },
		func(m *api.Module) { m.Vars = append(m.Vars, 0) },
		func(m *api.Module) { m.Vars[0], m.Vars[1] = m.Vars[1], m.Vars[0] },
		func(m *api.Module) { m.Arrays[1]++ },
		func(m *api.Module) { m.Arrays = m.Arrays[1:] },
		func(m *api.Module) { m.Arrays = append(m.Arrays, 0) },
		func(m *api.Module) { m.Arrays[0], m.Arrays[1] = m.Arrays[1], m.Arrays[0] },
		func(m *api.Module) { m.Chans[1]-- },
		func(m *api.Module) { m.Chans = nil },
		func(m *api.Module) { m.Chans = append(m.Chans, 1) },
		func(m *api.Module) { m.Chans, m.Arrays = m.Arrays, m.Chans },
		func(m *api.Module) { m.Mutexes++ },
		func(m *api.Module) { m.Mutexes = -1 },
		func(m *api.Module) { m.Conds-- },
		func(m *api.Module) { m.Conds, m.Mutexes = m.Mutexes, m.Conds },
		func(m *api.Module) { m.Threads = m.Threads[:2] },
		func(m *api.Module) { m.Threads = m.Threads[1:] },
		func(m *api.Module) { m.Threads = append(m.Threads, m.Threads[2]) },
		func(m *api.Module) { m.Threads[0], m.Threads[1] = m.Threads[1], m.Threads[0] },
	}
	for n := range 3 {
		l = append(l,
			func(m *api.Module) { m.Threads[n].Name += " " },
			func(m *api.Module) { m.Threads[n].Name = "" },
			func(m *api.Module) { m.Threads[n].Locals++ },
			func(m *api.Module) { m.Threads[n].Ins = append(m.Threads[n].Ins, api.Ins{}) },
			func(m *api.Module) { m.Threads[n].Lines = append(m.Threads[n].Lines, 0) },
		)
		for at := range len(full().Threads[n].Ins) {
			l = append(l,
				func(m *api.Module) { m.Threads[n].Ins[at].Code++ },
				func(m *api.Module) { m.Threads[n].Ins[at].A++ },
				func(m *api.Module) { m.Threads[n].Ins[at].B-- },
				func(m *api.Module) { m.Threads[n].Ins[at].Num += 1 << 32 },
				func(m *api.Module) { m.Threads[n].Lines[at]++ },
				func(m *api.Module) { m.Threads[n].Lines[at] = -1 },
			)
		}
	}
	return l
}

// P6.4: another module that may be has other bytes.
func TestOtherBytes(t *testing.T) {
	b := mustEncode(t, full())
	for _, change := range changes() {
		m := full()
		change(&m)
		if !secondMayBe(m) {
			wantArg(t, written(m), m)
		} else if slices.Equal(mustEncode(t, m), b) {
			t.Errorf("%v has the same bytes as %v", m, full())
		}
	}
}

// P6.1: what is handed in stays as it is, spare room behind it included, and what is told shares no memory with it.
func TestHandedIn(t *testing.T) {
	m := full()
	m.Vars = append(make([]int64, 0, 20), m.Vars...)
	m.Threads[0].Ins = append(make([]api.Ins, 0, 100), m.Threads[0].Ins...)
	m.Threads[0].Lines = append(make([]int, 0, 100), m.Threads[0].Lines...)
	b := mustEncode(t, m)
	Same(m, m)
	if !alike(m, full()) || !isEmpty(m.Vars) || !isEmpty(m.Threads[0].Ins) || !isEmpty(m.Threads[0].Lines) {
		t.Error("what was handed in is changed")
	}
	again := mustEncode(t, m)
	spoil(b)
	if !alike(m, full()) || !slices.Equal(again, mustEncode(t, full())) {
		t.Error("answers share memory")
	}
}

// isEmpty tells whether the spare room of a list is as it was made.
func isEmpty[T comparable](l []T) bool {
	var zero T
	return !slices.ContainsFunc(l[len(l):cap(l)], func(x T) bool { return x != zero })
}

// spoil changes all that bytes have, spare room included.
func spoil(b []byte) {
	b = b[:cap(b)]
	for n := range b {
		b[n] = 77
	}
}
