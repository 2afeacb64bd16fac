package ops

import (
	"fmt"
	"slices"
	"strconv"
	"strings"
	"testing"

	"warp/api"
)

// P6.3: each Code's name, and what it names.
func TestNames(t *testing.T) {
	if len(table) != 34 {
		t.Fatalf("the chapter's table has %d rows", len(table))
	}
	for n, r := range table {
		if int(r.code) != n+1 || !strings.Contains("| "+strings.ReplaceAll(chapter, "\n", " ")+" |", fmt.Sprintf("| %d %s ", r.code, r.name)) {
			t.Errorf("row %d is %v", n, r)
		}
		name, a, b, num := Names(r.code)
		if name != r.name || a != r.named["A"] || b != r.named["B"] || num != r.named["Num"] {
			t.Errorf("Names(%d): %q %t %t %t, want %v", r.code, name, a, b, num, r)
		}
	}
	if name, _, _, _ := Names(api.InsJumpNZ); name != "jumpnz" {
		t.Errorf("InsJumpNZ is %q", name)
	}
	if name, a, b, num := Names(api.InsWait); name != "wait" || !a || !b || num {
		t.Errorf("InsWait: %q %t %t %t", name, a, b, num)
	}
}

// P6.3: nothing of none.
func TestNamesOfNone(t *testing.T) {
	for _, c := range noCodes {
		if name, a, b, num := Names(c); name != "" || a || b || num {
			t.Errorf("Names(%d): %q %t %t %t, want nothing", c, name, a, b, num)
		}
	}
}

// P6.3: the chapter's examples.
func TestTextExamples(t *testing.T) {
	wantText(t, api.Ins{Code: api.InsWait, A: 1, B: 2}, "wait 1 2")
	wantText(t, api.Ins{Code: api.InsPush, Num: -7}, "push -7")
	wantText(t, api.Ins{Code: api.InsEnd}, "end")
	wantNoText(t, api.Ins{Code: api.InsPush, A: 1})
}

// P6.3, P6.1: each Code with each part that it names and that it does not, at all bounds and past them.
func TestTextOfAll(t *testing.T) {
	parts := append(slices.Clone(someParts), noParts...)
	values := append(slices.Clone(someValues), noValues...)
	for _, r := range table {
		for _, a := range parts {
			for _, b := range parts {
				for _, num := range values {
					wantPart(t, r, api.Ins{Code: r.code, A: a, B: b, Num: num})
				}
			}
		}
	}
}

// wantPart fails unless an instruction is told just if each part of it is named and within its bounds, or zero.
func wantPart(t *testing.T, r row, i api.Ins) {
	t.Helper()
	text := r.name
	may := true
	for _, p := range []struct {
		name        string
		n           int64
		least, most int64
	}{{"A", int64(i.A), 0, 65535}, {"B", int64(i.B), 0, 65535}, {"Num", i.Num, -2147483648, 2147483647}} {
		if r.named[p.name] {
			text += " " + strconv.FormatInt(p.n, 10)
			may = may && p.least <= p.n && p.n <= p.most
		} else {
			may = may && p.n == 0
		}
	}
	if may {
		wantText(t, i, text)
	} else {
		wantNoText(t, i)
	}
}

// P6.3, P6.1: of a Code that is none nothing is told, whatever stands beside it.
func TestTextOfNone(t *testing.T) {
	for _, c := range noCodes {
		wantNoText(t, api.Ins{Code: c})
		wantNoText(t, api.Ins{Code: c, A: 1})
		wantNoText(t, api.Ins{Code: c, A: 1, B: 2, Num: 3})
	}
}

// wantText fails unless an instruction may be and has that text.
func wantText(t *testing.T, i api.Ins, want string) {
	t.Helper()
	if got, fault := Text(i); got != want || fault != api.OK {
		t.Errorf("Text(%v): %q and error %d, want %q", i, got, fault, want)
	}
	if fault := Check(inThread([]api.Ins{i}, []int{1})); fault != api.OK {
		t.Errorf("Check of %v: error %d", i, fault)
	}
}

// wantNoText fails unless an instruction is refused, alone and in a module.
func wantNoText(t *testing.T, i api.Ins) {
	t.Helper()
	if got, fault := Text(i); got != "" || fault != api.ErrArg {
		t.Errorf("Text(%v): %q and error %d, want ErrArg", i, got, fault)
	}
	end := api.Ins{Code: api.InsEnd}
	for n := range 3 {
		l := []api.Ins{end, end, end}
		l[n] = i
		if fault := Check(inThread(l, []int{1, 2, 3})); fault != api.ErrArg {
			t.Errorf("Check of %v: error %d, want ErrArg", l, fault)
		}
	}
}
