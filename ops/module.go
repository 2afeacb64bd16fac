package ops

import (
	"iter"
	"math"

	"warp/api"
)

// Of a thread: how many instructions it has at most, and the last line that one may be of.
const (
	maxIns  = 1 << 16
	maxLine = 1 << 16
)

// moduleMayBe looks at how many there are of each list first, so that no more of a list is gone over than there may be.
func moduleMayBe(m api.Module) bool {
	return within(0, api.MaxNames, len(m.Vars), len(m.Arrays), len(m.Chans), m.Mutexes, m.Conds, len(m.Threads)) &&
		within(math.MinInt32, math.MaxInt32, m.Vars...) &&
		within(0, api.MaxCells, m.Arrays...) &&
		within(1, api.MaxRoom, m.Chans...) &&
		threadsMayBe(m.Threads)
}

func threadsMayBe(l []api.Code) bool {
	for _, c := range l {
		if !threadMayBe(c) {
			return false
		}
	}
	return true
}

func threadMayBe(c api.Code) bool {
	if !within(1, api.MaxName, len(c.Name)) ||
		!within(0, api.MaxLocals, c.Locals) ||
		!within(0, maxIns, len(c.Ins)) ||
		len(c.Lines) != len(c.Ins) {
		return false
	}
	for i, line := range instructions(c) {
		if !insMayBe(i) || !within(0, maxLine, line) {
			return false
		}
	}
	return true
}

// instructions goes over those of a thread that has as many lines, each with its own.
func instructions(c api.Code) iter.Seq2[api.Ins, int] {
	return func(yield func(api.Ins, int) bool) {
		for n, i := range c.Ins {
			if !yield(i, c.Lines[n]) {
				return
			}
		}
	}
}
