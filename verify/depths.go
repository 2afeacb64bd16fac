package verify

import (
	"container/heap"

	"warp/api"
)

// mostValues is how many values a stack ever has: those of the deepest expression, and one more that waits below it.
const mostValues = api.MaxDepth + 1

// notComeTo stands for the depth of what is not come to.
const notComeTo = -1

// places are numbers of instructions, still to be looked at, as a heap: the error that counts is that of the least one.
type places []int

func (p places) Len() int           { return len(p) }
func (p places) Less(a, b int) bool { return p[a] < p[b] }
func (p places) Swap(a, b int)      { p[a], p[b] = p[b], p[a] }

func (p *places) Push(place any) { *p = append(*p, place.(int)) }

func (p *places) Pop() any {
	last := len(*p) - 1
	place := (*p)[last]
	*p = (*p)[:last]
	return place
}

// depthsOf tells the depths of a thread's instructions, or its first error, of a module that may be.
func depthsOf(m api.Module, c api.Code) ([]int, api.Errno) {
	if len(c.Ins) == 0 {
		return nil, api.ErrEmpty
	}
	if !namesWhatIs(m, c) {
		return nil, api.ErrSlot
	}
	depths := make([]int, len(c.Ins))
	for at := range depths {
		depths[at] = notComeTo
	}
	if fault := look(c.Ins, depths); fault != api.OK {
		return nil, fault
	}
	return depths, api.OK
}

// look fills in the depth of each instruction that is come to, as far as nothing is wrong. A depth is filled in when its instruction is put on the heap, so that none is put there twice.
func look(ins []api.Ins, depths []int) api.Errno {
	fault := api.OK
	depths[0] = 0
	left := &places{0}
looking:
	for left.Len() > 0 {
		at := heap.Pop(left).(int)
		depth := 0
		if depth, fault = depthBehind(ins, at, depths[at]); fault != api.OK {
			break looking
		}
		for next := range behind(ins[at], at) {
			switch depths[next] {
			case notComeTo:
				depths[next] = depth
				heap.Push(left, next)
			case depth:
			default:
				fault = api.ErrDepth
				break looking
			}
		}
	}
	return fault
}

// depthBehind tells how many values are on the stack behind an instruction, or what is wrong with that one alone.
func depthBehind(ins []api.Ins, at, depth int) (int, api.Errno) {
	takes, puts, _ := Effect(ins[at].Code)
	after := depth - takes + puts
	if depth < takes || after > mostValues {
		return 0, api.ErrStack
	}
	if depth != 0 && (ins[at].Code == api.InsMark || ins[at].Code == api.InsEnd) {
		return 0, api.ErrMark
	}
	for next := range behind(ins[at], at) {
		if !isOne(next, len(ins)) {
			return 0, api.ErrRuns
		}
	}
	return after, api.OK
}
