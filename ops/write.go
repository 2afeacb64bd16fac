package ops

import "warp/api"

// writer writes a module that may be.
type writer struct{ octets }

// sealed tells all that was written, and the sum behind it.
func (w *writer) sealed() []byte {
	sum := w.sum()
	return append(w.bytes, sum[:]...)
}

func (w *writer) module(m api.Module) {
	w.bytes = append(w.bytes, magic...)
	writeList(w, m.Vars, w.signed)
	writeList(w, m.Arrays, w.count)
	writeList(w, m.Chans, w.count)
	w.count(m.Mutexes)
	w.count(m.Conds)
	writeList(w, m.Threads, w.thread)
}

func (w *writer) thread(c api.Code) {
	writeList(w, []byte(c.Name), w.single)
	w.count(c.Locals)
	w.count(len(c.Ins))
	ahead := 0
	for i, line := range instructions(c) {
		w.ins(i)
		w.signed(int64(line - ahead))
		ahead = line
	}
}

func (w *writer) ins(i api.Ins) {
	w.single(byte(i.Code))
	named := namedBy(i.Code)
	if named.has(partA) {
		w.count(i.A)
	}
	if named.has(partB) {
		w.count(i.B)
	}
	if named.has(partNum) {
		w.signed(i.Num)
	}
}

// writeList writes how many there are, and each one.
func writeList[T any](w *writer, l []T, one func(T)) {
	w.count(len(l))
	for _, x := range l {
		one(x)
	}
}

func (w *writer) single(b byte) { w.bytes = append(w.bytes, b) }

func (w *writer) count(n int) { w.number(uint64(n)) }

func (w *writer) signed(n int64) {
	if n < 0 {
		w.number(2*uint64(-n) - 1)
	} else {
		w.number(2 * uint64(n))
	}
}

func (w *writer) number(n uint64) {
	for n >= more {
		w.single(byte(n%more + more))
		n /= more
	}
	w.single(byte(n))
}
