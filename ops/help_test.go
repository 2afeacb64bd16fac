package ops

import (
	"math"
	"math/big"
	"slices"
	"strings"
	"testing"

	"warp/api"
)

// chapter is the chapter's table, as it stands there: each number, name, and what is named.
const chapter = `1 push Num | 2 var A | 3 local A | 4 cell A | 5 setvar A | 6 setlocal A | 7 setcell A | 8 neg | 9 not | 10 eq | 11 ne | 12 lt |
13 le | 14 add | 15 sub | 16 mul | 17 div | 18 mod | 19 jump A | 20 jumpz A | 21 jumpnz A | 22 bool | 23 mark A | 24 lock A |
25 unlock A | 26 wait A B | 27 signal A | 28 all A | 29 send A | 30 recv A | 31 spawn A | 32 join | 33 print | 34 end`

// Codes that are none.
var noCodes = []api.InsCode{0, -1, -2, -34, math.MinInt32, math.MinInt, 35, 36, 128 + 1, 256 + 1, 1<<16 + 1, 1<<32 + 1, math.MaxInt}

// Numbers that A and B may be if they are named, and numbers that they may not be whatever is named.
var (
	someParts = []int{0, 1, 2, 127, 128, 16383, 16384, 65534, 65535}
	noParts   = []int{-1, -65535, math.MinInt32, math.MinInt, 65536, 65537, 1 << 31, 1 << 32, math.MaxInt}
)

// Values, and numbers that are none.
var (
	someValues = []int64{0, 1, -1, 2, -2, 63, 64, -64, -65, 8191, 8192, -8192, -8193, 1<<20 - 1, 1 << 20, -1 << 20, -1<<20 - 1, 1<<27 - 1, 1 << 27, -1 << 27, -1<<27 - 1, 1<<31 - 2, 1<<31 - 1, -1<<31 + 1, -1 << 31}
	noValues   = []int64{1 << 31, -1<<31 - 1, 1 << 32, -1 << 32, 1<<32 + 1, math.MaxInt64, math.MinInt64}
)

// row is one code of the chapter's table.
type row struct {
	code  api.InsCode
	name  string
	named map[string]bool
}

// table is all rows of the chapter's.
var table = rows()

func rows() []row {
	var l []row
	for n, text := range strings.Split(chapter, "|") {
		words := strings.Fields(text)
		r := row{code: api.InsCode(n + 1), name: words[1], named: map[string]bool{}}
		for _, w := range words[2:] {
			r.named[w] = true
		}
		l = append(l, r)
	}
	return l
}

// one is the instruction of a row with each part that it names, told in the parts of full.
func (r row) one(full api.Ins) api.Ins {
	i := api.Ins{Code: r.code}
	if r.named["A"] {
		i.A = full.A
	}
	if r.named["B"] {
		i.B = full.B
	}
	if r.named["Num"] {
		i.Num = full.Num
	}
	return i
}

// full is a module that has all there is, with all codes.
func full() api.Module {
	m := api.Module{Vars: []int64{3, -4, 1 << 30}, Arrays: []int{2, 0, 256}, Chans: []int{1, 16}, Mutexes: 2, Conds: 5}
	all := api.Code{Name: "main", Locals: 3}
	for n, r := range table {
		all.Ins = append(all.Ins, r.one(api.Ins{A: 200 + n, B: 3, Num: -9000}))
		all.Lines = append(all.Lines, (n*7919)%300)
	}
	m.Threads = []api.Code{all, {Name: "t", Locals: 0}, {Name: "end", Locals: 32, Ins: []api.Ins{{Code: api.InsEnd}}, Lines: []int{0}}}
	return m
}

// inThread is a module of nothing but one thread of that.
func inThread(i []api.Ins, lines []int) api.Module {
	return api.Module{Threads: []api.Code{{Name: "t", Ins: i, Lines: lines}}}
}

// seal puts the sum behind bytes: worked out in numbers of any size.
func seal(b ...byte) []byte {
	n := big.NewInt(5381)
	for _, x := range b {
		n.Add(n.Mul(n, big.NewInt(33)), big.NewInt(int64(x)))
		n.Mod(n, big.NewInt(1<<32))
	}
	sum := n.Uint64()
	out := slices.Clone(b)
	for range 4 {
		out = append(out, byte(sum%256))
		sum /= 256
	}
	return out
}

// body is seal with WARP ahead.
func body(b ...byte) []byte { return seal(append([]byte("WARP"), b...)...) }

// mustEncode tells the bytes of a module that may be.
func mustEncode(t *testing.T, m api.Module) []byte {
	t.Helper()
	b, fault := Encode(m)
	if fault != api.OK || Check(m) != api.OK {
		t.Fatalf("Encode: error %d, Check: error %d, want OK", fault, Check(m))
	}
	return b
}

// wantBytes fails unless a module has just these bytes, and these are of it.
func wantBytes(t *testing.T, what string, m api.Module, want []byte) {
	t.Helper()
	if got := mustEncode(t, m); !slices.Equal(got, want) {
		t.Errorf("%s: Encode tells\n%v, want\n%v", what, got, want)
	}
	got, fault := Decode(want)
	if fault != api.OK || !alike(got, m) {
		t.Errorf("%s: Decode tells error %d and\n%v, want\n%v", what, fault, got, m)
	}
}

// wantNone fails unless bytes are refused with that error.
func wantNone(t *testing.T, what string, b []byte, want api.Errno) {
	t.Helper()
	m, fault := Decode(b)
	if fault != want {
		t.Errorf("%s: Decode tells error %d, want %d", what, fault, want)
	}
	if !isZero(m) {
		t.Errorf("%s: Decode tells %v beside error %d", what, m, fault)
	}
}

// wantArg fails unless a module is refused.
func wantArg(t *testing.T, what string, m api.Module) {
	t.Helper()
	if fault := Check(m); fault != api.ErrArg {
		t.Errorf("%s: Check tells error %d, want ErrArg", what, fault)
	}
	if b, fault := Encode(m); fault != api.ErrArg || len(b) != 0 {
		t.Errorf("%s: Encode tells error %d and %v, want ErrArg and nothing", what, fault, b)
	}
}

// wantOK fails unless a module may be, and comes back from its bytes.
func wantOK(t *testing.T, what string, m api.Module) {
	t.Helper()
	if fault := Check(m); fault != api.OK {
		t.Errorf("%s: Check tells error %d, want OK", what, fault)
		return
	}
	b := mustEncode(t, m)
	got, fault := Decode(b)
	if fault != api.OK || !alike(got, m) {
		t.Errorf("%s: Decode of Encode tells error %d, or another module", what, fault)
		return
	}
	if again := mustEncode(t, got); !slices.Equal(again, b) {
		t.Errorf("%s: Encode of Decode tells other bytes", what)
	}
}

func isZero(m api.Module) bool {
	return len(m.Vars)+len(m.Arrays)+len(m.Chans)+len(m.Threads) == 0 && m.Mutexes == 0 && m.Conds == 0
}

// alike holds modules against each other by all that can be told of them: another way than Same's.
func alike(a, b api.Module) bool { return written(a) == written(b) }

// copied is a module again, in new memory.
func copied(m api.Module) api.Module {
	m.Vars, m.Arrays, m.Chans = slices.Clone(m.Vars), slices.Clone(m.Arrays), slices.Clone(m.Chans)
	m.Threads = slices.Clone(m.Threads)
	for n := range m.Threads {
		m.Threads[n].Ins, m.Threads[n].Lines = slices.Clone(m.Threads[n].Ins), slices.Clone(m.Threads[n].Lines)
	}
	return m
}

// chooser makes numbers that look like thrown ones, the same each time.
type chooser struct{ state uint64 }

func (c *chooser) below(n int) int {
	c.state ^= c.state << 13
	c.state ^= c.state >> 7
	c.state ^= c.state << 17
	return int(c.state % uint64(n))
}

func (c *chooser) rarely(n int) bool { return c.below(n) == 0 }
