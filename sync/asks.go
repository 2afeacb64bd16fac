package sync

import (
	"cmp"
	"math"

	"warp/api"
)

// ask is what a call asks ahead of what it does. What it does not ask is left out, and not looked at.
type ask struct {
	last  api.Errno // of the errors that the call names, the last one
	made  bool      // is there a Sync at all
	there bool      // is there a part of that number
	fits  bool      // is what it is given a thread, a value
	may   bool      // is the mutex the thread's, does the thread wait nowhere
}

// refusal tells the first error that applies. A call comes in at the last one that it names, and falls to those that count more: what is found later is told.
func (a ask) refusal() api.Errno {
	fault := api.OK
	switch a.last {
	case api.ErrOwner, api.ErrWaits:
		if !a.may {
			fault = a.last
		}
		fallthrough
	case api.ErrArg:
		if !a.fits {
			fault = api.ErrArg
		}
		fallthrough
	case api.ErrRange:
		if !a.there {
			fault = api.ErrRange
		}
		fallthrough
	default:
		if !a.made {
			fault = api.ErrNil
		}
	}
	return fault
}

// find tells the part of that number. Where there is none, it tells an empty one that is nowhere: whatever is asked of that or done to it is zero, as all must be beside an error.
func find[T any](l []T, n int) (part *T, there bool) {
	if !within(0, len(l)-1, n) {
		return new(T), false
	}
	return &l[n], true
}

// look is find for the calls that ask no more than that the part is there.
func look[T any](made bool, l []T, n int) (*T, api.Errno) {
	part, there := find(l, n)
	return part, ask{last: api.ErrRange, made: made, there: there}.refusal()
}

// within tells whether all of the numbers are between the two, these included.
func within[N cmp.Ordered](least, most N, numbers ...N) bool {
	for _, n := range numbers {
		if n < least || n > most {
			return false
		}
	}
	return true
}

func isThread(t int) bool { return within(0, api.MaxThreads-1, t) }

func isValue(v int64) bool { return within(math.MinInt32, math.MaxInt32, v) }
