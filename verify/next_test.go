package verify

import (
	"testing"

	"warp/api"
	"warp/ops"
)

// P7.3: Effect, of each Code what the chapter's table tells.
func TestEffect(t *testing.T) {
	table := effectsOf()
	if len(table) != 24 {
		t.Fatalf("the chapter's table has %d Codes", len(table))
	}
	for c := api.InsPush; c <= api.InsEnd; c++ {
		name, _, _, _ := ops.Names(c)
		takes, puts, ok := Effect(c)
		if want := table[name]; takes != want[0] || puts != want[1] || !ok {
			t.Errorf("Effect(%s): %d %d %t, want %v and true", name, takes, puts, ok, want)
		}
	}
}

// P7.3: Effect, false of none.
func TestEffectOfNone(t *testing.T) {
	for _, c := range noCodes {
		if takes, puts, ok := Effect(c); takes != 0 || puts != 0 || ok {
			t.Errorf("Effect(%d): %d %d %t, want 0 0 false", c, takes, puts, ok)
		}
	}
}

// P7.3: Next, behind each Code, at the first, a middle and the last place.
func TestNext(t *testing.T) {
	for c := api.InsPush; c <= api.InsEnd; c++ {
		for at := range 3 {
			l := ins("end, end, end")
			l[at] = api.Ins{Code: c}
			m := with(l)
			switch c {
			case api.InsEnd:
				wantNext(t, m, 0, at, api.OK)
			case api.InsJump:
				wantNext(t, m, 0, at, api.OK, 0)
			case api.InsJumpZ, api.InsJumpNZ:
				wantNext(t, m, 0, at, api.OK, 0, at+1)
			default:
				wantNext(t, m, 0, at, api.OK, at+1)
			}
		}
	}
}

// P7.3: Next, of jumps forth, back, to themselves, to the next one, to the last one and behind it; each number once, the jump's ahead.
func TestNextOfJumps(t *testing.T) {
	for _, to := range []int{0, 1, 2, 3, 4, 5, 6, 100, 65534, 65535} {
		for at := range 5 {
			for _, c := range []api.InsCode{api.InsJump, api.InsJumpZ, api.InsJumpNZ} {
				l := ins("end, end, end, end, end")
				l[at] = api.Ins{Code: c, A: to}
				if c == api.InsJump || to == at+1 {
					wantNext(t, with(l), 0, at, api.OK, to)
				} else {
					wantNext(t, with(l), 0, at, api.OK, to, at+1)
				}
			}
		}
	}
}

// P7.3: Next asks the module just whether it may be, not whether it may run; and of the thread that is told.
func TestNextOfWhatMayNotRun(t *testing.T) {
	m := of("", "print, var 9, mark 0, push 1, end", "jump 77, spawn 99, wait 99 99, jumpz 88")
	wantNext(t, m, 0, 0, api.ErrRange)
	wantNext(t, m, 1, 0, api.OK, 1)
	wantNext(t, m, 1, 1, api.OK, 2)
	wantNext(t, m, 1, 2, api.OK, 3)
	wantNext(t, m, 1, 4, api.OK)
	wantNext(t, m, 1, 5, api.ErrRange)
	wantNext(t, m, 2, 0, api.OK, 77)
	wantNext(t, m, 2, 1, api.OK, 2)
	wantNext(t, m, 2, 2, api.OK, 3)
	wantNext(t, m, 2, 3, api.OK, 88, 4)
	wantNext(t, m, 3, 0, api.ErrRange)
}

// P7.3: Next, ErrRange of threads and instructions that are not there.
func TestNextBeyond(t *testing.T) {
	m := of("neg, jump 0, end", "end")
	for _, far := range append([]int{2, 3}, farNumbers...) {
		wantNext(t, m, far, 0, api.ErrRange)
		wantNext(t, m, far, far, api.ErrRange)
	}
	for _, far := range append([]int{3, 4}, farNumbers...) {
		wantNext(t, m, 0, far, api.ErrRange)
		wantNext(t, m, 1, far, api.ErrRange)
	}
	wantNext(t, m, 1, 1, api.ErrRange)
	wantNext(t, api.Module{}, 0, 0, api.ErrRange)
}

// P7.3: Next, ErrArg of a module that may not be, ahead of ErrRange.
func TestNextOfNoModule(t *testing.T) {
	for what, m := range noModules() {
		if got, fault := Next(m, 0, 0); len(got) != 0 || fault != api.ErrArg {
			t.Errorf("%s: Next tells %v and error %d, want ErrArg", what, got, fault)
		}
		if got, fault := Next(m, -1, 99); len(got) != 0 || fault != api.ErrArg {
			t.Errorf("%s: Next of none tells %v and error %d, want ErrArg", what, got, fault)
		}
	}
}

// noModules tells modules that may not be, each by one thing, which could run but for that.
func noModules() map[string]api.Module {
	l := map[string]api.Module{}
	spoil := func(what string, do func(m *api.Module)) {
		m := of("push 1, print, end", "end")
		do(&m)
		l[what] = m
	}
	spoil("a value that is none", func(m *api.Module) { m.Vars[0] = 1 << 31 })
	spoil("65 variables", func(m *api.Module) { m.Vars = make([]int64, 65) })
	spoil("an array below 0", func(m *api.Module) { m.Arrays[1] = -1 })
	spoil("a channel without room", func(m *api.Module) { m.Chans[1] = 0 })
	spoil("mutexes below 0", func(m *api.Module) { m.Mutexes = -1 })
	spoil("65 conditions", func(m *api.Module) { m.Conds = 65 })
	spoil("no name", func(m *api.Module) { m.Threads[1].Name = "" })
	spoil("33 locals", func(m *api.Module) { m.Threads[1].Locals = 33 })
	spoil("a line too few", func(m *api.Module) { m.Threads[0].Lines = m.Threads[0].Lines[:2] })
	spoil("a line too many", func(m *api.Module) { m.Threads[1].Lines = make([]int, 2) })
	spoil("no Code", func(m *api.Module) { m.Threads[1].Ins[0].Code = 0 })
	spoil("a Code far off", func(m *api.Module) { m.Threads[1].Ins[0].Code = 35 })
	spoil("a part that is not named", func(m *api.Module) { m.Threads[0].Ins[1].A = 1 })
	spoil("a jump below 0", func(m *api.Module) { m.Threads[0].Ins[1] = api.Ins{Code: api.InsJump, A: -1} })
	spoil("a jump too far", func(m *api.Module) { m.Threads[0].Ins[1] = api.Ins{Code: api.InsJump, A: 65536} })
	spoil("instructions without lines", func(m *api.Module) { m.Threads[0].Lines = nil })
	spoil("65537 instructions", func(m *api.Module) {
		m.Threads[1].Ins, m.Threads[1].Lines = make([]api.Ins, 65537), make([]int, 65537)
		for n := range m.Threads[1].Ins {
			m.Threads[1].Ins[n].Code = api.InsEnd
		}
	})
	return l
}
