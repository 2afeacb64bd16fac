package verify

import (
	"maps"
	"reflect"
	"slices"
	"testing"

	"warp/api"
	"warp/ops"
)

// P7.1, P7.2: the chapter's examples.
func TestExamples(t *testing.T) {
	want(t, of("push 1, print, end"), api.OK, 0, 1, 0)
	want(t, of("print, end"), api.ErrStack)
	want(t, of("push 1, end"), api.ErrMark)
	want(t, of("push 1"), api.ErrRuns)
	want(t, of("jump 2, neg, end"), api.OK, 0, -1, 0)
	want(t, of("push 1, jumpz 0, end"), api.OK, 0, 1, 0)
	m := of("var 0, print, end")
	m.Vars = nil
	want(t, m, api.ErrSlot)
	m.Threads[0].Ins, m.Threads[0].Lines = ins("var 0, end"), make([]int, 2)
	want(t, m, api.ErrSlot)
	want(t, of(""), api.ErrEmpty)
}

// P7.1, P7.2: a module of no thread may run, and one of as many as there may be.
func TestThreads(t *testing.T) {
	if fault := Check(api.Module{}); fault != api.OK {
		t.Errorf("a module of nothing: error %d", fault)
	}
	many := with(slices.Repeat([][]api.Ins{ins("push 1, print, end")}, 64)...)
	if fault := Check(many); fault != api.OK {
		t.Errorf("64 threads: error %d", fault)
	}
	for n := range 64 {
		wantDepths(t, many, n, api.OK, 0, 1, 0)
	}
	wantDepths(t, many, 64, api.ErrArg)
}

// P7.2: ErrArg, of threads that are not there.
func TestNoThread(t *testing.T) {
	m := of("end", "", "print, end")
	for _, far := range append([]int{3, 4}, farNumbers...) {
		wantDepths(t, m, far, api.ErrArg)
		wantDepths(t, api.Module{}, far, api.ErrArg)
	}
	wantDepths(t, api.Module{}, 0, api.ErrArg)
}

// P7.1, P7.2: ErrArg, of modules that may not be, whatever the threads are.
func TestNoModule(t *testing.T) {
	for what, m := range noModules() {
		if fault := Check(m); fault != api.ErrArg {
			t.Errorf("%s: Check tells %d, want ErrArg", what, fault)
		}
		for _, n := range []int{-1, 0, 1, 2} {
			if got, fault := Depths(m, n); len(got) != 0 || fault != api.ErrArg {
				t.Errorf("%s: Depths of %d tells %v and %d, want ErrArg", what, n, got, fault)
			}
		}
	}
	for _, threads := range []string{"", "print, end", "var 9, end"} {
		m := of(threads, "end")
		m.Mutexes = -1
		want(t, m, api.ErrArg)
	}
}

// P7.1, P7.2: the error of the first thread that has one; each thread by itself.
func TestThreadByThread(t *testing.T) {
	flaws := map[string]api.Errno{
		"":                           api.ErrEmpty,
		"lock 5, end":                api.ErrSlot,
		"print, end":                 api.ErrStack,
		"push 1, end":                api.ErrMark,
		"push 1, print":              api.ErrRuns,
		"push 1, print, jump 1, end": api.ErrDepth,
		"push 1, push 2, jump 0":     api.ErrDepth,
	}
	for first, fault := range flaws {
		for second, other := range flaws {
			m := of("end", first, "jump 0", second, "join, end")
			if got := Check(m); got != fault {
				t.Errorf("%q, %q: Check tells %d, want %d", first, second, got, fault)
			}
			wantDepths(t, m, 0, api.OK, 0)
			wantDepths(t, m, 1, fault)
			wantDepths(t, m, 2, api.OK, 0)
			wantDepths(t, m, 3, other)
			wantDepths(t, m, 4, api.OK, 0, 0)
		}
	}
}

// P7.1: what Codes name: the first and the last one that there is, and others; one past it, and far past it, and where there is none at all.
func TestSlots(t *testing.T) {
	named := thingsOf()
	if len(named) != 17 {
		t.Fatalf("%d Codes name what must be there", len(named))
	}
	for name, c := range codes() {
		_, a, b, _ := ops.Names(c)
		count := some[named[name]]
		switch named[name] {
		case "instruction":
			count = 3
		case "thread":
			count = 2
		case "":
			count = 1 << 16
		}
		for _, n := range []int{0, 1, 2, 3, 4, 5, 6, 7, 8, 63, 64, 255, 256, 65534, 65535} {
			if !a {
				break
			}
			i := api.Ins{Code: c, A: n}
			wantSlot(t, i, n < count)
			i = api.Ins{Code: c, A: 0, B: n}
			if b {
				wantSlot(t, i, n < some["mutex"])
			}
			i = api.Ins{Code: c, A: n, B: n}
			if b {
				wantSlot(t, i, n < count && n < some["mutex"])
			}
		}
	}
}

// wantSlot fails unless ErrSlot is told just if an instruction does not name what is there, where it stands where it is not come to.
func wantSlot(t *testing.T, i api.Ins, isThere bool) {
	t.Helper()
	m := with([]api.Ins{{Code: api.InsJump, A: 2}, i, {Code: api.InsEnd}}, ins("end"))
	if isThere {
		want(t, m, api.OK, 0, -1, 0)
		return
	}
	want(t, m, api.ErrSlot)
	wantDepths(t, m, 1, api.OK, 0)
	m.Threads[0], m.Threads[1] = m.Threads[1], m.Threads[0]
	if i.Code != api.InsSpawn {
		wantDepths(t, m, 1, api.ErrSlot)
	}
}

// P7.1: what there is none of at all: its first one is not there.
func TestNoSlots(t *testing.T) {
	for name, thing := range thingsOf() {
		if thing == "instruction" || thing == "thread" {
			continue
		}
		c := codes()[name]
		m := with([]api.Ins{{Code: api.InsJump, A: 2}, {Code: c}, {Code: api.InsEnd}})
		want(t, m, api.OK, 0, -1, 0)
		switch thing {
		case "variable":
			m.Vars = nil
		case "local":
			m.Threads[0].Locals = 0
		case "array":
			m.Arrays = nil
		case "mutex":
			m.Mutexes = 0
		case "condition":
			m.Conds = 0
		case "channel":
			m.Chans = nil
		}
		want(t, m, api.ErrSlot)
	}
	m := of("jump 2, wait 0 0, end")
	m.Mutexes = 0
	want(t, m, api.ErrSlot)
	// A mark names none: what it holds is for others to read.
	want(t, of("mark 65535, end"), api.OK, 0, 0)
}

// P7.1: locals are those of the thread itself.
func TestLocalsOfEach(t *testing.T) {
	m := of("local 1, print, end", "local 1, print, end", "push 3, setlocal 0, end")
	m.Threads[0].Locals, m.Threads[1].Locals, m.Threads[2].Locals = 2, 1, 1
	wantDepths(t, m, 0, api.OK, 0, 1, 0)
	wantDepths(t, m, 1, api.ErrSlot)
	wantDepths(t, m, 2, api.OK, 0, 1, 0)
	if fault := Check(m); fault != api.ErrSlot {
		t.Errorf("Check tells %d", fault)
	}
}

// P7.1, P7.2: each Code, with too few values by one, with just enough, and with as many as there may be.
func TestStackOfEach(t *testing.T) {
	for name, effect := range effectsOf() {
		for _, values := range []int{0, 1, 2, 3, most - 1, most} {
			after := values - effect[0] + effect[1]
			text := again(values, "push 7") + name + " 0, " + again(max(after, 0), "print") + "end"
			if name == "jumpz" || name == "jumpnz" {
				text = again(values, "push 7") + name + " " + itoa(values+1) + ", " + again(max(after, 0), "print") + "end"
			}
			m := with(plain(ins(text)))
			if values < effect[0] || after > most {
				want(t, m, api.ErrStack)
				continue
			}
			want(t, m, api.OK, slices.Concat(up(values), down(after))...)
		}
	}
}

// P7.1, P7.2: Codes that take and put nothing, with any values below them, but for mark and end.
func TestStackOfOthers(t *testing.T) {
	table := effectsOf()
	for name, c := range codes() {
		if _, does := table[name]; does {
			continue
		}
		for _, values := range []int{0, 1, most} {
			text := again(values, "push 7") + name + " 0, " + again(values, "print") + "end"
			if name == "jump" {
				text = again(values, "push 7") + "jump " + itoa(values+1) + ", " + again(values, "print") + "end"
			}
			if (c == api.InsMark || c == api.InsEnd) && values > 0 {
				want(t, of(text), api.ErrMark)
				continue
			}
			if c == api.InsEnd {
				want(t, of(text), api.OK, 0, -1)
				continue
			}
			want(t, of(text), api.OK, slices.Concat(up(values), down(values))...)
		}
	}
}

// up is 0 up to a number.
func up(n int) []int {
	var l []int
	for d := range n + 1 {
		l = append(l, d)
	}
	return l
}

// down is a number down to 0.
func down(n int) []int {
	l := up(n)
	slices.Reverse(l)
	return l
}

// plain takes out of instructions what their Codes do not name.
func plain(l []api.Ins) []api.Ins {
	for n := range l {
		if _, a, _, _ := ops.Names(l[n].Code); !a {
			l[n].A = 0
		}
	}
	return l
}

// P7.1, P7.2: jumps forth, back, to themselves, to the next one, to the last one; behind the last one there is none.
func TestJumps(t *testing.T) {
	want(t, of("jump 0"), api.OK, 0)
	want(t, of("jump 1"), api.ErrSlot)
	want(t, of("jump 1, end"), api.OK, 0, 0)
	want(t, of("jump 2, end, jump 1"), api.OK, 0, 0, 0)
	want(t, of("jump 2, end"), api.ErrSlot)
	want(t, of("push 1, jumpz 2, end"), api.OK, 0, 1, 0)
	want(t, of("push 1, jumpnz 3, end"), api.ErrSlot)
	want(t, of("push 1, push 2, jumpnz 1, print, end"), api.OK, 0, 1, 2, 1, 0)
	want(t, of("push 1, jumpz 1, end"), api.ErrDepth)
	want(t, of("push 1, push 2, jumpz 2, print, end"), api.ErrDepth)
	want(t, of("jumpz 0, end"), api.ErrStack)
	want(t, of("push 1, jumpz 4, jump 0, neg, jump 6, neg, mark 9, end"), api.OK, 0, 1, 0, -1, 0, -1, 0, 0)
	want(t, of("push 1, jumpz 4, push 2, jump 5, push 3, print, end"), api.OK, 0, 1, 0, 1, 0, 1, 0)
	want(t, of("push 1, jumpz 4, push 2, jump 5, join, print, end"), api.ErrDepth)
}

// P7.1: the last instruction of each Code that goes on; a jump and an end may be the last.
func TestRunsOn(t *testing.T) {
	table := effectsOf()
	for name, c := range codes() {
		takes := table[name][0]
		text := again(takes, "push 1") + name + " 0"
		m := with(plain(ins(text)))
		if c == api.InsJump || c == api.InsEnd {
			want(t, m, api.OK, 0)
		} else {
			want(t, m, api.ErrRuns)
		}
		// Where it is not come to it may be the last one.
		m = with(plain(ins("end, " + text)))
		want(t, m, api.OK, append([]int{0}, slices.Repeat([]int{-1}, takes+1)...)...)
	}
}

// P7.2: what is not come to: whatever is wrong with it but for what it names.
func TestNotComeTo(t *testing.T) {
	want(t, of("end, print"), api.OK, 0, -1)
	want(t, of("jump 3, setcell 0, push 1, end"), api.OK, 0, -1, -1, 0)
	want(t, of("jump 0, "+again(30, "push 1")+"end"), api.OK, append([]int{0}, slices.Repeat([]int{-1}, 31)...)...)
	want(t, of("end, jump 3, jump 0, jump 1"), api.OK, 0, -1, -1, -1)
	want(t, of("end, jump 4, jump 0, jump 1"), api.ErrSlot)
	want(t, of("push 1, jump 4, mark 0, end, print, jump 3"), api.OK, 0, 1, -1, 0, 1, 0)
}

// P7.1: of one instruction ErrStack, ErrMark, ErrRuns, ErrDepth, in this order; ErrSlot ahead of them, wherever it stands.
func TestOrderOfOne(t *testing.T) {
	want(t, of(again(most, "push 1")+"push 1"), api.ErrStack)
	want(t, of("print"), api.ErrStack)
	want(t, of("jumpz 0"), api.ErrStack)
	want(t, of("push 1, mark 0"), api.ErrMark)
	want(t, of("push 1, jumpz 0"), api.ErrRuns)
	want(t, of("push 1, push 1, jumpz 0"), api.ErrRuns)
	want(t, of("push 1, push 1, jumpz 0, print, end"), api.ErrDepth)
	want(t, of("print, var 2"), api.ErrSlot)
	want(t, of("push 1, end, lock 5"), api.ErrSlot)
	want(t, of("push 1, lock 5"), api.ErrSlot)
	want(t, of("push 1, jump 0, lock 5"), api.ErrSlot)
}

// P7.1: of several instructions: always the least one that is come to and was not looked at yet.
func TestOrderOfSeveral(t *testing.T) {
	// Behind 1 come 4 and 2; 2 is the least.
	want(t, of("push 1, jumpz 4, push 1, end, print, end"), api.ErrMark)
	want(t, of("push 1, jumpz 4, join, print, push 1, end"), api.ErrStack)
	// 5 is come to first; but 3 and 4, which come behind it, are looked at ahead of what 1 left to be looked at.
	want(t, of("push 1, jumpz 5, jump 5, push 1, end, jump 3, print"), api.ErrMark)
	want(t, of("push 1, jumpz 6, jump 5, push 1, end, jump 3, print"), api.ErrMark)
	want(t, of("push 1, jumpz 4, jump 5, end, print, push 1, end"), api.ErrStack)
	want(t, of("push 1, jumpz 3, jump 4, print, push 1, end"), api.ErrStack)
	// The depth of 2 differs, as 3 tells; but 2 is looked at ahead of that.
	want(t, of("push 1, jumpz 3, mark 0, push 1, jump 2"), api.ErrDepth)
	want(t, of("push 1, jumpz 3, print, push 1, jump 2"), api.ErrStack)
	// 5 is come to from 2 with no value, from 4 with one; the least one of 4 and 5 is looked at first, and tells so.
	want(t, of("push 1, jumpz 4, jump 5, end, push 1, print, end"), api.ErrDepth)
	want(t, of("push 1, jumpz 5, jump 4, end, print, push 1, jump 4"), api.ErrStack)
}

// P7.1, P7.2: as many instructions as there may be, in one thread and in many.
func TestLong(t *testing.T) {
	long := make([]api.Ins, 65536)
	for n := range long {
		long[n] = api.Ins{Code: api.InsJump, A: 65535 - n}
	}
	long[32768] = api.Ins{Code: api.InsJump, A: 0}
	depths, fault := Depths(with(long), 0)
	if fault != api.OK || len(depths) != 65536 || depths[0] != 0 || depths[65535] != 0 || depths[1] != -1 {
		t.Errorf("jumps forth and back: error %d, %d depths", fault, len(depths))
	}
	for n := range long {
		long[n] = api.Ins{Code: []api.InsCode{api.InsPush, api.InsJumpZ}[n%2]}
		if n%2 == 1 {
			long[n].A = (65535 - n) &^ 1
		}
	}
	want(t, with(long), api.ErrRuns)
	long[65535] = api.Ins{Code: api.InsPrint}
	want(t, with(long), api.ErrRuns)
	long[65534], long[65535] = api.Ins{Code: api.InsJoin}, api.Ins{Code: api.InsEnd}
	depths, fault = Depths(with(long), 0)
	if fault != api.OK || len(depths) != 65536 || slices.Contains(depths, -1) {
		t.Errorf("many jumps: error %d, %d depths", fault, len(depths))
	}
	for n, d := range depths {
		if d != 0 && (n%2 == 0 || d != 1) {
			t.Fatalf("depth %d is %d", n, d)
		}
	}
}

// P7.1 to P7.3: modules that are handed in stay as they are, spare room included; answers share no memory.
func TestApart(t *testing.T) {
	m := of("push 1, print, jump 5, push 1, print, end", "push 2, jumpz 1, push 9, end")
	m.Threads = append(make([]api.Code, 0, 9), m.Threads...)
	for n := range m.Threads {
		m.Threads[n].Ins = append(make([]api.Ins, 0, 99), m.Threads[n].Ins...)
	}
	m.Threads[1].Ins = m.Threads[1].Ins[:3]
	m.Threads[1].Lines = m.Threads[1].Lines[:3]
	before := deep(m)
	Check(m)
	first, _ := Depths(m, 0)
	Depths(m, 1)
	next, _ := Next(m, 1, 1)
	spoil(first)
	spoil(next)
	wantDepths(t, m, 0, api.OK, 0, 1, 0, -1, -1, 0)
	wantNext(t, m, 1, 1, api.OK, 1, 2)
	if !reflect.DeepEqual(before, deep(m)) {
		t.Errorf("a module was changed: %v, before %v", deep(m), before)
	}
}

// deep tells a module with all of its spare room.
func deep(m api.Module) []any {
	l := []any{slices.Clone(m.Vars), slices.Clone(m.Arrays), slices.Clone(m.Chans), m.Mutexes, m.Conds}
	for _, c := range m.Threads[:cap(m.Threads)] {
		l = append(l, c.Name, c.Locals, slices.Clone(c.Ins[:cap(c.Ins)]), slices.Clone(c.Lines[:cap(c.Lines)]))
	}
	return l
}

// spoil writes over a list, spare room included.
func spoil(l []int) {
	l = l[:cap(l)]
	for n := range l {
		l[n] = -99
	}
}

// P7.1 to P7.3: nil and empty mean the same.
func TestNilIsEmpty(t *testing.T) {
	m := api.Module{Vars: []int64{}, Arrays: []int{}, Chans: []int{}, Threads: []api.Code{}}
	if fault := Check(m); fault != api.OK {
		t.Errorf("a module of nothing: error %d", fault)
	}
	for _, none := range [][]api.Ins{nil, {}} {
		m = with(none)
		want(t, m, api.ErrEmpty)
	}
	if len(slices.Collect(maps.Keys(codes()))) != 34 {
		t.Errorf("there are not 34 Codes")
	}
}
