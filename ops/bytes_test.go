package ops

import (
	"slices"
	"testing"

	"warp/api"
)

// P6.1, P6.2: the chapter's examples.
func TestExamples(t *testing.T) {
	wantBytes(t, "a module of nothing", api.Module{}, body(0, 0, 0, 0, 0, 0))
	if got, want := mustEncode(t, api.Module{}), []byte{'W', 'A', 'R', 'P', 0, 0, 0, 0, 0, 0}; !slices.Equal(got[:10], want) || len(got) != 14 {
		t.Errorf("a module of nothing: %v", got)
	}
	wantNone(t, "WARP", []byte("WARP"), api.ErrSum)
	b := mustEncode(t, api.Module{})
	for at := range b {
		other := slices.Clone(b)
		other[at] ^= 1
		wantNone(t, "another byte", other, api.ErrSum)
	}
}

// P6.1: the sum, of bytes whose sum was worked out by hand: 5381 * 33^10 + .., modulo 2^32.
func TestSum(t *testing.T) {
	n := uint64(5381)
	for _, b := range []byte("WARP\x00\x00\x00\x00\x00\x00") {
		n = (n*33 + uint64(b)) % 4294967296
	}
	b := mustEncode(t, api.Module{})
	if got := uint64(b[10]) + uint64(b[11])*256 + uint64(b[12])*65536 + uint64(b[13])*16777216; got != n {
		t.Errorf("the sum is %d, want %d", got, n)
	}
}

// P6.1, P6.2: modules whose bytes are written down by hand.
func TestBytes(t *testing.T) {
	wantBytes(t, "vars", api.Module{Vars: []int64{0, 1, -1, 2, -2, 64, -64, -65}}, body(8, 0, 2, 1, 4, 3, 128, 1, 127, 129, 1, 0, 0, 0, 0, 0))
	wantBytes(t, "far vars", api.Module{Vars: []int64{1<<31 - 1, -1 << 31}}, body(2, 254, 255, 255, 255, 15, 255, 255, 255, 255, 15, 0, 0, 0, 0, 0))
	wantBytes(t, "arrays, chans", api.Module{Arrays: []int{0, 127, 128, 256}, Chans: []int{1, 16}}, body(0, 4, 0, 127, 128, 1, 128, 2, 2, 1, 16, 0, 0, 0))
	wantBytes(t, "mutexes, conds", api.Module{Mutexes: 64, Conds: 3}, body(0, 0, 0, 64, 3, 0))
	wantBytes(t, "threads", api.Module{Threads: []api.Code{{Name: "main", Locals: 32}, {Name: "t"}}}, body(0, 0, 0, 0, 0, 2, 4, 'm', 'a', 'i', 'n', 32, 0, 1, 't', 0, 0))
	wantBytes(t, "instructions", api.Module{Threads: []api.Code{
		{Name: "m", Ins: []api.Ins{
			{Code: api.InsPush, Num: -7},
			{Code: api.InsWait, A: 1, B: 2},
			{Code: api.InsJump, A: 65535},
			{Code: api.InsPush, Num: 300},
			{Code: api.InsEnd},
		}, Lines: []int{3, 3, 1, 70, 0}},
		{Name: "n", Ins: []api.Ins{{Code: api.InsNeg}, {Code: api.InsVar, A: 5}}, Lines: []int{65536, 0}},
	}}, body(0, 0, 0, 0, 0, 2,
		1, 'm', 0, 5,
		1, 13, 6, // push -7, 3 above 0
		26, 1, 2, 0,
		19, 255, 255, 3, 3,
		1, 216, 4, 138, 1, // push 300, 69 above
		34, 139, 1, // 70 below
		1, 'n', 0, 2,
		8, 128, 128, 8, // of the first one the line ahead is 0 again
		2, 5, 255, 255, 7))
}

// P6.1, P6.2: numbers of each count of bytes, at the bounds of it.
func TestNumbersOfBytes(t *testing.T) {
	for _, l := range []struct {
		n     int64
		bytes []byte
	}{
		{63, []byte{126}}, {-64, []byte{127}},
		{64, []byte{128, 1}}, {8191, []byte{254, 127}}, {-8192, []byte{255, 127}},
		{8192, []byte{128, 128, 1}}, {1<<20 - 1, []byte{254, 255, 127}}, {-1 << 20, []byte{255, 255, 127}},
		{1 << 20, []byte{128, 128, 128, 1}}, {1<<27 - 1, []byte{254, 255, 255, 127}}, {-1 << 27, []byte{255, 255, 255, 127}},
		{1 << 27, []byte{128, 128, 128, 128, 1}}, {-1<<27 - 1, []byte{129, 128, 128, 128, 1}},
	} {
		wantBytes(t, "a variable", api.Module{Vars: []int64{l.n}}, body(slices.Concat([]byte{1}, l.bytes, []byte{0, 0, 0, 0, 0})...))
		push := inThread([]api.Ins{{Code: api.InsPush, Num: l.n}}, []int{0})
		wantBytes(t, "a push", push, body(slices.Concat([]byte{0, 0, 0, 0, 0, 1, 1, 't', 0, 1, 1}, l.bytes, []byte{0})...))
	}
	for n, bytes := range map[int][]byte{0: {0}, 127: {127}, 128: {128, 1}, 16383: {255, 127}, 16384: {128, 128, 1}, 65535: {255, 255, 3}} {
		mark := inThread([]api.Ins{{Code: api.InsMark, A: n}}, []int{0})
		wantBytes(t, "a mark", mark, body(slices.Concat([]byte{0, 0, 0, 0, 0, 1, 1, 't', 0, 1, 23}, bytes, []byte{0})...))
		wait := inThread([]api.Ins{{Code: api.InsWait, A: n, B: n}}, []int{0})
		wantBytes(t, "a wait", wait, body(slices.Concat([]byte{0, 0, 0, 0, 0, 1, 1, 't', 0, 1, 26}, bytes, bytes, []byte{0})...))
	}
}

// P6.2: fewer than 8 bytes, or another sum: ErrSum, whatever else is wrong.
func TestWrongSum(t *testing.T) {
	wantNone(t, "nil", nil, api.ErrSum)
	for n := range 8 {
		wantNone(t, "few bytes", make([]byte, n), api.ErrSum)
		wantNone(t, "few bytes", mustEncode(t, full())[:n], api.ErrSum)
	}
	// The sum of no bytes, of one, of three: right, but too few.
	for n := range 4 {
		wantNone(t, "few bytes with their sum", seal([]byte("WARP")[:n]...), api.ErrSum)
	}
	b := mustEncode(t, full())
	for n := range len(b) {
		wantNone(t, "cut off", b[:n], api.ErrSum)
	}
	wantNone(t, "one byte more", append(slices.Clone(b), 0), api.ErrSum)
	for n := 1; n < 4; n++ {
		turned := slices.Clone(b)
		at := len(b) - 4
		turned[at], turned[at+n] = turned[at+n]+1, turned[at]
		wantNone(t, "a sum turned round", turned, api.ErrSum)
	}
}

// P6.4: where one byte is another one, it is no module: all bytes, each as each other one.
func TestOneByteAnother(t *testing.T) {
	b := mustEncode(t, full())
	for at := range b {
		for x := range 256 {
			other := slices.Clone(b)
			other[at] = byte(x)
			if other[at] != b[at] {
				wantNone(t, "another byte", other, api.ErrSum)
			}
		}
	}
}

// P6.2: a right sum, but not WARP, or what is cut off, or what has more behind it.
func TestNoModule(t *testing.T) {
	wantNone(t, "WARP alone", body(), api.ErrModule)
	wantNone(t, "four noughts", seal(0, 0, 0, 0), api.ErrModule)
	whole := mustEncode(t, full())
	whole = whole[:len(whole)-4]
	for n := 4; n < len(whole); n++ {
		wantNone(t, "cut off", seal(whole[:n]...), api.ErrModule)
	}
	for b := range 256 {
		wantNone(t, "one byte behind", seal(append(slices.Clone(whole), byte(b))...), api.ErrModule)
	}
	wantNone(t, "the sum twice", seal(mustEncode(t, full())...), api.ErrModule)
	for at := range 4 {
		for b := range 256 {
			other := slices.Clone(whole)
			other[at] = byte(b)
			if b != int(whole[at]) {
				wantNone(t, "not WARP", seal(other...), api.ErrModule)
			}
		}
	}
}

// P6.2: numbers of more bytes than need be, wherever they stand.
func TestLongNumbers(t *testing.T) {
	short := []byte{1, 2, 1, 3, 1, 4, 5, 6, 1, 1, 't', 7, 1, 26, 8, 9, 10}
	wantBytes(t, "as short as may be", api.Module{Vars: []int64{1}, Arrays: []int{3}, Chans: []int{4}, Mutexes: 5, Conds: 6,
		Threads: []api.Code{{Name: "t", Locals: 7, Ins: []api.Ins{{Code: api.InsWait, A: 8, B: 9}}, Lines: []int{5}}}}, body(short...))
	for at := range short {
		for n := range 12 {
			long := slices.Concat(short[:at], []byte{short[at] + 128}, slices.Repeat([]byte{128}, n), []byte{0}, short[at+1:])
			wantNone(t, "a long number", body(long...), api.ErrModule)
		}
	}
	for n := range 20 {
		wantNone(t, "nought", body(slices.Concat(slices.Repeat([]byte{128}, n+1), []byte{0}, make([]byte, 5))...), api.ErrModule)
		// Its bits would be beyond what a number of Go holds, and so it must not seem to be nought, or one.
		for _, first := range []byte{0, 1} {
			high := slices.Concat([]byte{first + 128}, slices.Repeat([]byte{128}, n), []byte{1}, make([]byte, 5+int(first)))
			wantNone(t, "high bits", body(high...), api.ErrModule)
		}
	}
}

// P6.2: what is one past its bound, or far past it, at each place.
func TestPastBounds(t *testing.T) {
	past := func(what string, bytes ...byte) {
		t.Helper()
		wantNone(t, what, body(bytes...), api.ErrModule)
	}
	past("65 vars", slices.Concat([]byte{65}, make([]byte, 65+5))...)
	past("65 arrays", slices.Concat([]byte{0, 65}, make([]byte, 65+4))...)
	past("65 chans", slices.Concat([]byte{0, 0, 65}, slices.Repeat([]byte{1}, 65), make([]byte, 3))...)
	past("65 mutexes", 0, 0, 0, 65, 0, 0)
	past("65 conds", 0, 0, 0, 0, 65, 0)
	past("65 threads", slices.Concat([]byte{0, 0, 0, 0, 0, 65}, slices.Repeat([]byte{1, 't', 0, 0}, 65))...)
	past("no value", 1, 128, 128, 128, 128, 16, 0, 0, 0, 0, 0)
	past("no value, a far one", 1, 255, 255, 255, 255, 127, 0, 0, 0, 0, 0)
	past("no value, as many bytes as may not be", 1, 128, 128, 128, 128, 128, 1, 0, 0, 0, 0, 0)
	past("257 cells", 0, 1, 129, 2, 0, 0, 0, 0)
	past("no room", 0, 0, 1, 0, 0, 0, 0)
	past("a room for 17", 0, 0, 1, 17, 0, 0, 0)
	past("no name", 0, 0, 0, 0, 0, 1, 0, 0, 0)
	past("a name of 17", slices.Concat([]byte{0, 0, 0, 0, 0, 1, 17}, slices.Repeat([]byte{'n'}, 17), []byte{0, 0})...)
	past("33 locals", 0, 0, 0, 0, 0, 1, 1, 't', 33, 0)
	past("65537 instructions", slices.Concat([]byte{0, 0, 0, 0, 0, 1, 1, 't', 0, 129, 128, 4}, slices.Repeat([]byte{34, 0}, 65537))...)
	past("many instructions, and none there", 0, 0, 0, 0, 0, 1, 1, 't', 0, 128, 128, 4)
	ins := func(what string, bytes ...byte) {
		t.Helper()
		past(what, slices.Concat([]byte{0, 0, 0, 0, 0, 1, 1, 't', 0, 1}, bytes)...)
	}
	ins("a mark of 65536", 23, 128, 128, 4, 0)
	ins("a wait of 65536", 26, 128, 128, 4, 1, 0)
	ins("a wait of 1, 65536", 26, 1, 128, 128, 4, 0)
	ins("a push of no value", 1, 128, 128, 128, 128, 16, 0)
	ins("a line of 65537", 34, 130, 128, 8)
	ins("a line of -1", 34, 1)
	ins("a line of -65536", 34, 255, 255, 7)
	ins("a line of -65537", 34, 129, 128, 8)
	for b := range 256 {
		if b == 0 || b > 34 {
			ins("no code", byte(b), 0)
			ins("no code", byte(b), 1, 0)
			ins("no code", byte(b), 1, 1, 0)
		}
	}
	two := func(what string, bytes ...byte) {
		t.Helper()
		past(what, slices.Concat([]byte{0, 0, 0, 0, 0, 1, 1, 't', 0, 2, 34, 10}, bytes)...)
	}
	two("5 and 65532 lines more", 34, 248, 255, 7)
	two("5 and 6 lines less", 34, 11)
	two("nothing behind the first")
}

// P6.2: what the chapter says of a Code's parts holds for bytes too: none that it does not name.
func TestPartsInBytes(t *testing.T) {
	for _, r := range table {
		for n := range 4 {
			b := body(slices.Concat([]byte{0, 0, 0, 0, 0, 1, 1, 't', 0, 1, byte(r.code)}, slices.Repeat([]byte{2}, n+1))...)
			m, fault := Decode(b)
			if n != len(r.named) {
				wantNone(t, r.name, b, api.ErrModule)
				continue
			}
			want := r.one(api.Ins{A: 2, B: 2, Num: 1})
			if fault != api.OK || len(m.Threads) != 1 || !slices.Equal(m.Threads[0].Ins, []api.Ins{want}) || !slices.Equal(m.Threads[0].Lines, []int{1}) {
				t.Errorf("%s: error %d and %v, want %v", r.name, fault, m, want)
			}
		}
	}
}

// P6.2: bytes that tell more than they have end soon, and lay no more than they have.
func TestLies(t *testing.T) {
	for _, lie := range [][]byte{{255, 255, 255, 255, 15}, {255, 255, 255, 255, 255, 255, 255, 255, 255, 1}, {64}, {128, 128, 4}} {
		for n := range 10 {
			wantNone(t, "a lie", body(append([]byte{0, 0, 0, 0, 0, 1, 1, 't', 0}[:n:n], lie...)...), api.ErrModule)
		}
	}
	long := slices.Repeat([]byte{128}, 1<<20)
	wantNone(t, "a number without an end", body(long...), api.ErrModule)
}

// P6.2: bytes that are handed in stay as they are, spare room included; answers share no memory.
func TestDecodeIsNew(t *testing.T) {
	plain := mustEncode(t, full())
	b := append(make([]byte, 0, 2*len(plain)), plain...)
	first, _ := Decode(b)
	second, _ := Decode(b)
	if !slices.Equal(b, plain) || !isEmpty(b) {
		t.Error("what was handed in is changed")
	}
	spoil(b)
	if !alike(first, full()) {
		t.Error("an answer shares memory with what was handed in")
	}
	first.Vars, first.Arrays, first.Chans = all(first.Vars), all(first.Arrays), all(first.Chans)
	for n := range first.Threads {
		c := &first.Threads[n]
		c.Ins, c.Lines = all(c.Ins), all(c.Lines)
		for _, change := range []func(){func() { c.Ins[0].A = 9 }, func() { c.Lines[0] = 9 }} {
			if len(c.Ins) > 0 && len(c.Lines) > 0 {
				change()
			}
		}
	}
	first.Vars[0], first.Arrays[0], first.Chans[0], first.Threads[0] = 9, 9, 9, api.Code{}
	if !alike(second, full()) {
		t.Error("answers share memory")
	}
}

// all is a list with its spare room, zeroed.
func all[T any](l []T) []T {
	l = l[:cap(l)]
	clear(l)
	return l
}

// P6.2: an answer's lists share no memory among themselves: to grow one changes no other one.
func TestListsApart(t *testing.T) {
	m, _ := Decode(mustEncode(t, full()))
	want := written(m)
	_ = append(m.Vars, 9)
	_ = append(m.Arrays, 9)
	_ = append(m.Chans, 9)
	for _, c := range m.Threads {
		_ = append(c.Ins, api.Ins{Code: 9})
		_ = append(c.Lines, 9)
	}
	if written(m) != want {
		t.Error("lists share memory")
	}
}

// P6.4: all that is decoded is encoded to the same bytes, whatever bytes they are.
func FuzzDecode(f *testing.F) {
	f.Add(mustEncodeAll(full()))
	f.Add([]byte("WARP\x00\x00\x00\x00\x00\x00"))
	f.Fuzz(func(t *testing.T, b []byte) {
		wantSecond(t, b)
		wantSecond(t, seal(b...))
		if m, fault := Decode(seal(b...)); fault == api.OK && !slices.Equal(mustEncode(t, m), seal(b...)) {
			t.Errorf("Encode of Decode of %v tells other bytes", seal(b...))
		}
	})
}

// mustEncodeAll tells the bytes of a module ahead of its sum.
func mustEncodeAll(m api.Module) []byte {
	b, _ := Encode(m)
	return b[:len(b)-4]
}
