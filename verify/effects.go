package verify

import (
	"iter"

	"warp/api"
)

// effect is how many values an instruction takes off a stack, and how many it puts on it.
type effect struct{ takes, puts int }

// effects has a row for each Code; those that do nothing with a stack are zero, as is that of none.
var effects = [...]effect{
	api.InsPush:     {0, 1},
	api.InsVar:      {0, 1},
	api.InsLocal:    {0, 1},
	api.InsRecv:     {0, 1},
	api.InsCell:     {1, 1},
	api.InsNeg:      {1, 1},
	api.InsNot:      {1, 1},
	api.InsBool:     {1, 1},
	api.InsEq:       {2, 1},
	api.InsNe:       {2, 1},
	api.InsLt:       {2, 1},
	api.InsLe:       {2, 1},
	api.InsAdd:      {2, 1},
	api.InsSub:      {2, 1},
	api.InsMul:      {2, 1},
	api.InsDiv:      {2, 1},
	api.InsMod:      {2, 1},
	api.InsSetVar:   {1, 0},
	api.InsSetLocal: {1, 0},
	api.InsJumpZ:    {1, 0},
	api.InsJumpNZ:   {1, 0},
	api.InsSend:     {1, 0},
	api.InsPrint:    {1, 0},
	api.InsSetCell:  {2, 0},
	api.InsEnd:      {0, 0},
}

// behind goes over the numbers of what comes behind an instruction, the jump's ahead, each once. There need not be one of that number.
func behind(i api.Ins, at int) iter.Seq[int] {
	return func(yield func(int) bool) {
		switch i.Code {
		case api.InsEnd:
		case api.InsJump:
			yield(i.A)
		case api.InsJumpZ, api.InsJumpNZ:
			if yield(i.A) && i.A != at+1 {
				yield(at + 1)
			}
		default:
			yield(at + 1)
		}
	}
}
