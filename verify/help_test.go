package verify

import (
	"math"
	"slices"
	"strconv"
	"strings"
	"testing"

	"warp/api"
	"warp/ops"
)

// chapter is the chapter's table, as it stands there: names, what they take, what they put. All others take and put nothing.
const chapter = `push, var, local, recv | 0 | 1
cell, neg, not, bool | 1 | 1
eq, ne, lt, le, add, sub, mul, div, mod | 2 | 1
setvar, setlocal, jumpz, jumpnz, send, print | 1 | 0
setcell | 2 | 0`

// things is what each Code names that must be there, as the chapter tells it: of wait a condition, and a mutex by B.
const things = `variable: var setvar
local: local setlocal
array: cell setcell
instruction: jump jumpz jumpnz
mutex: lock unlock
condition: signal all wait
channel: send recv
thread: spawn`

// Codes that are none.
var noCodes = []api.InsCode{0, -1, -2, -34, math.MinInt32, math.MinInt, 35, 36, 128 + 1, 256 + 1, 1<<16 + 1, 1<<32 + 1, math.MaxInt}

// Numbers of which nothing has that many.
var farNumbers = []int{-1, -2, math.MinInt32, math.MinInt, 1 << 16, 1 << 31, 1 << 32, math.MaxInt32, math.MaxInt}

// most is how many values a stack may have.
const most = 25

// effectsOf reads the chapter's table.
func effectsOf() map[string][2]int {
	l := map[string][2]int{}
	for line := range strings.Lines(chapter) {
		parts := strings.Split(strings.TrimSpace(line), " | ")
		takes, _ := strconv.Atoi(parts[1])
		puts, _ := strconv.Atoi(parts[2])
		for _, name := range strings.Split(parts[0], ", ") {
			l[name] = [2]int{takes, puts}
		}
	}
	return l
}

// thingsOf reads what each Code names that must be there.
func thingsOf() map[string]string {
	l := map[string]string{}
	for line := range strings.Lines(things) {
		thing, codes, _ := strings.Cut(strings.TrimSpace(line), ": ")
		for _, name := range strings.Fields(codes) {
			l[name] = thing
		}
	}
	return l
}

// codes tells all Codes by their names.
func codes() map[string]api.InsCode {
	l := map[string]api.InsCode{}
	for c := api.InsPush; c <= api.InsEnd; c++ {
		name, _, _, _ := ops.Names(c)
		l[name] = c
	}
	return l
}

// ins reads a row of instructions: as ops.Text tells them, with a comma between.
func ins(text string) []api.Ins {
	named := codes()
	var l []api.Ins
	for _, one := range strings.Split(text, ",") {
		words := strings.Fields(one)
		if len(words) == 0 {
			continue
		}
		i := api.Ins{Code: named[words[0]]}
		numbers := make([]int, 3)
		for n, w := range words[1:] {
			numbers[n], _ = strconv.Atoi(w)
		}
		if i.Code == api.InsPush {
			i.Num = int64(numbers[0])
		} else {
			i.A, i.B = numbers[0], numbers[1]
		}
		l = append(l, i)
	}
	return l
}

// again tells a text so many times, with a comma behind each.
func again(n int, text string) string { return strings.Repeat(text+", ", n) }

// some is how many things there are of each kind that a module has: each another number, so that none can stand for another.
var some = map[string]int{"variable": 2, "array": 3, "channel": 4, "mutex": 5, "condition": 6, "local": 7}

// with is a module that has some of all, and these threads.
func with(threads ...[]api.Ins) api.Module {
	m := api.Module{Vars: make([]int64, some["variable"]), Mutexes: some["mutex"], Conds: some["condition"]}
	m.Arrays = make([]int, some["array"])
	m.Chans = slices.Repeat([]int{1}, some["channel"])
	for _, t := range threads {
		m.Threads = append(m.Threads, api.Code{Name: "t", Locals: some["local"], Ins: t, Lines: make([]int, len(t))})
	}
	return m
}

// of is a module of threads that are told as texts.
func of(threads ...string) api.Module {
	var l [][]api.Ins
	for _, t := range threads {
		l = append(l, ins(t))
	}
	return with(l...)
}

// want fails unless Check and Depths of the thread answer that for a module of one thread.
func want(t *testing.T, m api.Module, fault api.Errno, depths ...int) {
	t.Helper()
	if got := Check(m); got != fault {
		t.Errorf("%.200s: Check tells %d, want %d", shown(m), got, fault)
	}
	wantDepths(t, m, 0, fault, depths...)
}

// wantDepths fails unless Depths answers that.
func wantDepths(t *testing.T, m api.Module, thread int, fault api.Errno, depths ...int) {
	t.Helper()
	got, gotFault := Depths(m, thread)
	if gotFault != fault {
		t.Errorf("%.200s: Depths of %d tells %d, want %d", shown(m), thread, gotFault, fault)
	}
	if !slices.Equal(got, depths) {
		t.Errorf("%.200s: Depths of %d tells %v, want %v", shown(m), thread, got, depths)
	}
}

// wantNext fails unless Next answers that.
func wantNext(t *testing.T, m api.Module, thread, at int, fault api.Errno, numbers ...int) {
	t.Helper()
	got, gotFault := Next(m, thread, at)
	if gotFault != fault || !slices.Equal(got, numbers) {
		t.Errorf("%.200s: Next(%d, %d) tells %v and error %d, want %v and %d", shown(m), thread, at, got, gotFault, numbers, fault)
	}
}

// shown is the instructions of a module as a text.
func shown(m api.Module) string {
	var b strings.Builder
	for _, c := range m.Threads {
		for _, i := range c.Ins {
			text, _ := ops.Text(i)
			b.WriteString(text + ", ")
		}
		b.WriteString("; ")
	}
	return b.String()
}

// chooser makes numbers that look like thrown ones, the same each time.
type chooser struct{ state uint64 }

func (c *chooser) below(n int) int {
	c.state ^= c.state << 13
	c.state ^= c.state >> 7
	c.state ^= c.state << 17
	return int(c.state % uint64(n))
}

// nameOf tells what a Code is called, and what it takes and puts.
func nameOf(c api.InsCode) (string, int, int) {
	name, _, _, _ := ops.Names(c)
	effect := effectsOf()[name]
	return name, effect[0], effect[1]
}
