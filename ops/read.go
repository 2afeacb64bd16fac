package ops

import (
	"math"

	"warp/api"
)

// none is what a reader gives up by where the bytes are no module's.
type none struct{}

// reader reads a module. Each number is held against its bound when it is read, so that of bytes that are no module's no more is laid than one may have.
type reader struct{ octets }

// unseal takes the sum off the end, and tells whether it is the sum of all ahead of it.
func (r *reader) unseal() bool {
	end := len(r.bytes) - sumSize
	if end < len(magic) {
		return false
	}
	sum := [sumSize]byte(r.bytes[end:])
	r.bytes = r.bytes[:end]
	return sum == r.sum()
}

// want gives up where what must be is not.
func (r *reader) want(so bool) {
	if !so {
		panic(none{})
	}
}

func (r *reader) module() api.Module {
	r.want(string(r.cut(len(magic))) == magic)
	m := api.Module{}
	m.Vars = readList(r, api.MaxNames, r.value)
	m.Arrays = readList(r, api.MaxNames, func() int { return r.count(0, api.MaxCells) })
	m.Chans = readList(r, api.MaxNames, func() int { return r.count(1, api.MaxRoom) })
	m.Mutexes = r.count(0, api.MaxNames)
	m.Conds = r.count(0, api.MaxNames)
	m.Threads = readList(r, api.MaxNames, r.thread)
	r.want(len(r.bytes) == 0)
	return m
}

func (r *reader) thread() api.Code {
	c := api.Code{Name: string(readList(r, api.MaxName, r.single))}
	r.want(c.Name != "")
	c.Locals = r.count(0, api.MaxLocals)
	line := 0
	c.Ins = readList(r, maxIns, func() api.Ins {
		i := r.ins()
		line += int(r.signed(2 * maxLine))
		r.want(within(0, maxLine, line))
		c.Lines = append(c.Lines, line)
		return i
	})
	return c
}

func (r *reader) ins() api.Ins {
	i := api.Ins{Code: api.InsCode(r.single())}
	named := namedBy(i.Code)
	r.want(named.name != "")
	if named.has(partA) {
		i.A = r.count(0, maxPart)
	}
	if named.has(partB) {
		i.B = r.count(0, maxPart)
	}
	if named.has(partNum) {
		i.Num = r.value()
	}
	return i
}

// readList reads how many there are, and each one. It grows as they come: how many the bytes tell may be a lie.
func readList[T any](r *reader, most int, one func() T) []T {
	var l []T
	for range r.count(0, most) {
		l = append(l, one())
	}
	return l
}

// cut takes that many bytes off the front.
func (r *reader) cut(n int) []byte {
	r.want(len(r.bytes) >= n)
	front := r.bytes[:n]
	r.bytes = r.bytes[n:]
	return front
}

func (r *reader) single() byte { return r.cut(1)[0] }

func (r *reader) count(least, most int) int {
	n := int(r.number(uint64(most)))
	r.want(n >= least)
	return n
}

// value reads a number with a sign: as all of 32 bits are values, it can't be beyond.
func (r *reader) value() int64 { return r.signed(math.MaxUint32) }

// signed reads a number with a sign that is told as most or less.
func (r *reader) signed(most uint64) int64 {
	n := r.number(most)
	if n%2 == 1 {
		return -int64(n/2) - 1
	}
	return int64(n / 2)
}

// number gives up at the sixth byte already: no number of a module has as many, and more of them would not fit.
func (r *reader) number(most uint64) uint64 {
	n := uint64(0)
	for shift := 0; ; shift += 7 {
		b := r.single()
		n |= uint64(b%more) << shift
		if b < more {
			r.want(n <= most && (b > 0 || shift == 0))
			return n
		}
		r.want(shift < 28)
	}
}
