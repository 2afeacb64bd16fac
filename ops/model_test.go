package ops

import (
	"fmt"
	"math/big"
	"slices"
	"strings"
	"testing"

	"warp/api"
)

// This is a second reading of the chapter: a module is written as a row of words first, and its bytes are those of the words; bytes are read as words of any size, without a bound, and are a module's if the module of those words may be and has just these bytes.

// word is a number, or a byte that stands as it is.
type word struct {
	n      *big.Int
	signed bool
	plain  bool
}

func count(n int) word { return word{n: big.NewInt(int64(n))} }

func sign(n int64) word { return word{n: big.NewInt(n), signed: true} }

func plain(b byte) word { return word{n: big.NewInt(int64(b)), plain: true} }

// written is all of a module, also of one that may not be, as a text.
func written(m api.Module) string {
	var b strings.Builder
	fmt.Fprintln(&b, len(m.Vars), m.Vars, len(m.Arrays), m.Arrays, len(m.Chans), m.Chans, m.Mutexes, m.Conds, len(m.Threads))
	for _, c := range m.Threads {
		fmt.Fprintf(&b, "%q %d %d %v %d %v\n", c.Name, c.Locals, len(c.Ins), c.Ins, len(c.Lines), c.Lines)
	}
	return b.String()
}

// words tells those of a module, be it one that may be or not, but one with as many lines as instructions.
func words(m api.Module) []word {
	var l []word
	for _, c := range "WARP" {
		l = append(l, plain(byte(c)))
	}
	l = append(l, count(len(m.Vars)))
	for _, v := range m.Vars {
		l = append(l, sign(v))
	}
	for _, list := range [][]int{m.Arrays, m.Chans} {
		l = append(l, count(len(list)))
		for _, n := range list {
			l = append(l, count(n))
		}
	}
	l = append(l, count(m.Mutexes), count(m.Conds), count(len(m.Threads)))
	for _, c := range m.Threads {
		l = append(l, count(len(c.Name)))
		for n := range len(c.Name) {
			l = append(l, plain(c.Name[n]))
		}
		l = append(l, count(c.Locals), count(len(c.Ins)))
		lines := append([]int{0}, c.Lines...)
		for n, i := range c.Ins {
			l = append(l, plain(byte(i.Code)))
			r := table[i.Code-1]
			if r.named["A"] {
				l = append(l, count(i.A))
			}
			if r.named["B"] {
				l = append(l, count(i.B))
			}
			if r.named["Num"] {
				l = append(l, sign(i.Num))
			}
			l = append(l, sign(int64(lines[n+1]-lines[n])))
		}
	}
	return l
}

// bytesOf tells the bytes of words: of a number its digits, of base 128.
func bytesOf(l []word) []byte {
	var out []byte
	for _, w := range l {
		if w.plain {
			out = append(out, byte(w.n.Int64()))
			continue
		}
		n := new(big.Int).Set(w.n)
		if w.signed {
			n.Lsh(n, 1)
			if n.Sign() < 0 {
				n.Not(n)
			}
		}
		var digits []byte
		for first := true; first || n.Sign() > 0; first = false {
			digit := new(big.Int)
			n.DivMod(n, big.NewInt(128), digit)
			digits = append(digits, byte(digit.Int64())+128)
		}
		digits[len(digits)-1] -= 128
		out = append(out, digits...)
	}
	return out
}

// loose reads words off bytes, as long as there are some, whatever they are.
type loose struct {
	bytes []byte
	short bool
}

func (l *loose) plain() byte {
	if len(l.bytes) == 0 {
		l.short = true
		return 0
	}
	b := l.bytes[0]
	l.bytes = l.bytes[1:]
	return b
}

// number tells a number, or one that is above all bounds if it does not fit.
func (l *loose) number() int64 {
	n := new(big.Int)
	for shift := uint(0); ; shift += 7 {
		b := l.plain()
		n.Or(n, new(big.Int).Lsh(big.NewInt(int64(b)&127), shift))
		if b < 128 {
			break
		}
	}
	if n.BitLen() > 40 {
		return 1 << 40
	}
	return n.Int64()
}

func (l *loose) count() int { return int(l.number()) }

func (l *loose) sign() int64 {
	n := l.number()
	if n&1 == 1 {
		return ^(n >> 1)
	}
	return n >> 1
}

// times does what it is told as often as the next number says, as long as there are bytes.
func (l *loose) times(do func()) {
	for n := l.number(); n > 0 && !l.short; n-- {
		do()
	}
}

// second is the chapter's Decode, read in that way.
func second(b []byte) (api.Module, api.Errno) {
	if len(b) < 8 || !slices.Equal(seal(b[:len(b)-4]...), b) {
		return api.Module{}, api.ErrSum
	}
	l := &loose{bytes: b[:len(b)-4]}
	var m api.Module
	for range 4 {
		l.plain()
	}
	l.times(func() { m.Vars = append(m.Vars, l.sign()) })
	l.times(func() { m.Arrays = append(m.Arrays, l.count()) })
	l.times(func() { m.Chans = append(m.Chans, l.count()) })
	m.Mutexes = l.count()
	m.Conds = l.count()
	l.times(func() {
		var c api.Code
		l.times(func() { c.Name += string([]byte{l.plain()}) })
		c.Locals = l.count()
		line := 0
		l.times(func() {
			i := api.Ins{Code: api.InsCode(l.plain())}
			if i.Code >= 1 && i.Code <= 34 {
				r := table[i.Code-1]
				if r.named["A"] {
					i.A = l.count()
				}
				if r.named["B"] {
					i.B = l.count()
				}
				if r.named["Num"] {
					i.Num = l.sign()
				}
			}
			line += int(l.sign())
			c.Ins, c.Lines = append(c.Ins, i), append(c.Lines, line)
		})
		m.Threads = append(m.Threads, c)
	})
	if l.short || !secondMayBe(m) || !slices.Equal(bytesOf(words(m)), b[:len(b)-4]) {
		return api.Module{}, api.ErrModule
	}
	return m, api.OK
}

// secondMayBe is the chapter's "It may be", one demand behind the other.
func secondMayBe(m api.Module) bool {
	so := true
	demand := func(is bool) { so = so && is }
	for _, n := range []int{len(m.Vars), len(m.Arrays), len(m.Chans), len(m.Threads), m.Mutexes, m.Conds} {
		demand(n >= 0 && n <= 64)
	}
	for _, v := range m.Vars {
		demand(int64(int32(v)) == v)
	}
	for _, n := range m.Arrays {
		demand(n >= 0 && n <= 256)
	}
	for _, n := range m.Chans {
		demand(n >= 1 && n <= 16)
	}
	for _, c := range m.Threads {
		demand(len(c.Name) >= 1 && len(c.Name) <= 16)
		demand(c.Locals >= 0 && c.Locals <= 32)
		demand(len(c.Ins) <= 65536 && len(c.Ins) == len(c.Lines))
		for _, n := range c.Lines {
			demand(n >= 0 && n <= 65536)
		}
		for _, i := range c.Ins {
			demand(i.Code >= 1 && i.Code <= 34)
			if !so {
				return false
			}
			r := table[i.Code-1]
			demand(i == r.one(i) && int(uint16(i.A)) == i.A && int(uint16(i.B)) == i.B && int64(int32(i.Num)) == i.Num)
		}
	}
	return so
}

// maker makes modules, most of which may be.
type maker struct{ chooser }

func (c *maker) value() int64 {
	if c.rarely(400) {
		return noValues[c.below(len(noValues))]
	}
	return someValues[c.below(len(someValues))]
}

func (c *maker) part() int {
	if c.rarely(400) {
		return noParts[c.below(len(noParts))]
	}
	return someParts[c.below(len(someParts))]
}

func (c *maker) upTo(most int) int {
	if c.rarely(150) {
		return most + 1
	}
	return c.below(most + 1)
}

func (c *maker) module() api.Module {
	var m api.Module
	for range c.below(5) {
		m.Vars = append(m.Vars, c.value())
	}
	for range c.below(4) {
		m.Arrays = append(m.Arrays, c.upTo(256))
	}
	for range c.below(4) {
		m.Chans = append(m.Chans, max(c.upTo(16), c.below(16)))
	}
	m.Mutexes, m.Conds = c.upTo(64), c.upTo(64)
	for range c.below(4) {
		code := api.Code{Name: strings.Repeat(string([]byte{byte(c.below(256))}), max(1, c.upTo(16))), Locals: c.upTo(32)}
		for range c.below(9) {
			i := table[c.below(34)].one(api.Ins{A: c.part(), B: c.part(), Num: c.value()})
			if c.rarely(400) {
				i.B = 1
			}
			code.Ins, code.Lines = append(code.Ins, i), append(code.Lines, c.upTo(65536)>>c.below(17))
		}
		m.Threads = append(m.Threads, code)
	}
	return m
}

// P6.1, P6.2, P6.4: made modules, held against the second reading.
func TestSecondReadingOfModules(t *testing.T) {
	c := maker{chooser{88172645463325252}}
	taken := 0
	for range 6000 {
		m := c.module()
		if !secondMayBe(m) {
			wantArg(t, written(m), m)
			continue
		}
		taken++
		wantBytes(t, written(m), m, seal(bytesOf(words(m))...))
	}
	if taken < 3000 || taken > 5900 {
		t.Errorf("%d of the modules may be", taken)
	}
}

// wantSecond fails unless bytes are told as the second reading tells them.
func wantSecond(t *testing.T, b []byte) api.Errno {
	t.Helper()
	got, fault := Decode(b)
	m, want := second(b)
	if fault != want || !alike(got, m) {
		t.Fatalf("Decode(%v): error %d and\n%v, want %d and\n%v", b, fault, got, want, m)
	}
	return fault
}

// P6.2: made modules with one byte another one, one more, one less, or one twice, and the sum of that.
func TestSecondReadingOfBytes(t *testing.T) {
	c := maker{chooser{362436069}}
	taken := 0
	for range 2500 {
		m := c.module()
		if !secondMayBe(m) {
			continue
		}
		b := bytesOf(words(m))
		for range 8 {
			at := c.below(len(b))
			x := byte(c.below(256))
			if c.rarely(2) {
				x = b[at] + byte(c.below(5)) - 2
			}
			for _, made := range [][]byte{
				slices.Concat(b[:at], []byte{x}, b[at+1:]),
				slices.Concat(b[:at], []byte{x}, b[at:]),
				slices.Concat(b[:at], b[at+1:]),
				slices.Concat(b[:at+1], b[at:]),
				slices.Concat(b[:at], []byte{b[at] | 128, 0}, b[at+1:]),
				b[:at],
			} {
				if wantSecond(t, seal(made...)) == api.OK {
					taken++
				}
			}
		}
	}
	if taken < 1000 {
		t.Errorf("%d of the bytes are modules", taken)
	}
}

// P6.2: all rows of up to nine of some bytes behind WARP.
func TestAllShortBytes(t *testing.T) {
	some := []byte{0, 1, 2, 34, 128}
	taken := 0
	var grow func(b []byte, left int)
	grow = func(b []byte, left int) {
		if wantSecond(t, seal(b...)) == api.OK {
			taken++
		}
		if left > 0 {
			for _, x := range some {
				grow(append(slices.Clip(b), x), left-1)
			}
		}
	}
	grow([]byte("WARP"), 7)
	// A module of nothing has six; a seventh is a value, a room, a number of two bytes.
	if taken == 0 {
		t.Error("none is a module")
	}
	for _, threads := range [][]byte{{1, 1, 34, 0, 1}, {1, 1, 34, 2, 2}} {
		grow(append([]byte("WARP\x00\x00\x00\x00\x00"), threads...), 5)
	}
}
