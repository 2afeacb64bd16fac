package sync

import (
	"fmt"
	"math"
	"reflect"
	"strings"
	"testing"

	"warp/api"
)

// Numbers that are nowhere, values that are none, threads that are none.
var (
	farNumbers = []int{-1, -2, math.MinInt32, math.MinInt, 65, 1 << 31, 1 << 32, math.MaxInt}
	noThreads  = []int{-1, -8, math.MinInt32, math.MinInt, api.MaxThreads, api.MaxThreads + 1, 1 << 31, 1 << 32, math.MaxInt}
	noValues   = []int64{-1<<31 - 1, 1 << 31, -1 << 32, 1 << 32, math.MinInt64, math.MaxInt64}
	someValues = []int64{-1 << 31, -1<<31 + 1, -1, 0, 1, 7, 1<<31 - 2, 1<<31 - 1}
)

// mustMake tells a Sync that may be.
func mustMake(t *testing.T, mutexes, conds int, rooms ...int) *Sync {
	t.Helper()
	s, fault := New(mutexes, conds, rooms...)
	if s == nil || fault != api.OK {
		t.Fatalf("New(%d, %d, %v): error %d", mutexes, conds, rooms, fault)
	}
	return s
}

// told is what a call answered, as a text; nil and empty lists mean the same.
func told(answers ...any) string {
	var words []string
	for _, x := range answers {
		switch {
		case x == api.OK:
			words = append(words, "OK")
		case isEmpty(x):
			words = append(words, "[]")
		default:
			words = append(words, fmt.Sprint(x))
		}
	}
	return strings.Join(words, " ")
}

// isEmpty tells whether an answer is a list of nothing.
func isEmpty(x any) bool {
	v := reflect.ValueOf(x)
	return v.Kind() == reflect.Slice && v.Len() == 0
}

// want fails unless what was told is that.
func want(t *testing.T, what, got, want string) {
	t.Helper()
	if got != want {
		t.Errorf("%s: got %q, want %q", what, got, want)
	}
}

// wantFault fails unless a call has just that error, and zero answers beside it.
func wantFault(t *testing.T, what string, fault api.Errno, answers ...any) {
	t.Helper()
	got := answers[len(answers)-1]
	if got != fault {
		t.Errorf("%s: error %v, want %d", what, got, fault)
	}
	for _, x := range answers[:len(answers)-1] {
		if !isEmpty(x) && !reflect.ValueOf(x).IsZero() {
			t.Errorf("%s: %v beside the error %d", what, x, fault)
		}
	}
}

// answered are the answers of a call, for those that take a list of them.
func answered(answers ...any) []any { return answers }

// call is a call by its name, its number and what else it is given.
type call struct {
	name string
	n, t int
	v    int64
}

func (c call) String() string { return fmt.Sprintf("%s(%d, %d, %d)", c.name, c.n, c.t, c.v) }

// of tells the answers of a call.
func (c call) of(s *Sync) []any {
	switch c.name {
	case "Owner":
		return answered(s.Owner(c.n))
	case "Lock":
		return answered(s.Lock(c.n, c.t))
	case "Unlock":
		return answered(s.Unlock(c.n, c.t))
	case "Wait":
		return answered(s.Wait(c.n, c.t))
	case "Waits":
		return answered(s.Waits(c.n))
	case "Signal":
		return answered(s.Signal(c.n))
	case "All":
		return answered(s.All(c.n))
	case "Send":
		return answered(s.Send(c.n, c.v))
	case "Recv":
		return answered(s.Recv(c.n))
	case "Values":
		return answered(s.Values(c.n))
	}
	return answered(s.Room(c.n))
}

// allNames are those of all methods that name a part.
var allNames = []string{"Owner", "Lock", "Unlock", "Wait", "Waits", "Signal", "All", "Send", "Recv", "Values", "Room"}

// wantRow makes calls one behind the other, and fails unless each answers as the row says.
func wantRow(t *testing.T, s *Sync, row ...any) {
	t.Helper()
	for i := 0; i < len(row); i += 2 {
		c := row[i].(call)
		want(t, c.String(), told(c.of(s)...), row[i+1].(string))
	}
}

// The calls that rows are made of.
func owner(m int) call         { return call{name: "Owner", n: m} }
func lock(m, t int) call       { return call{name: "Lock", n: m, t: t} }
func unlock(m, t int) call     { return call{name: "Unlock", n: m, t: t} }
func wait(c, t int) call       { return call{name: "Wait", n: c, t: t} }
func waits(c int) call         { return call{name: "Waits", n: c} }
func signal(c int) call        { return call{name: "Signal", n: c} }
func all(c int) call           { return call{name: "All", n: c} }
func send(q int, v int64) call { return call{name: "Send", n: q, v: v} }
func recv(q int) call          { return call{name: "Recv", n: q} }
func values(q int) call        { return call{name: "Values", n: q} }
func room(q int) call          { return call{name: "Room", n: q} }

// stands tells all that there is, as far as the calls that change nothing tell it.
func stands(s *Sync, mutexes, conds, chans int) string {
	text := ""
	for i := range mutexes {
		text += told(owner(i).of(s)...) + ", "
	}
	for i := range conds {
		text += told(waits(i).of(s)...) + ", "
	}
	for i := range chans {
		text += told(values(i).of(s)...) + " for " + told(room(i).of(s)...) + ", "
	}
	return text
}
