package verify

import (
	"slices"
	"strconv"
	"testing"

	"warp/api"
)

func itoa(n int) string { return strconv.Itoa(n) }

// This is a second reading of the chapter: what is come to is kept as a set, and the least one is looked for again each time; errors are told from texts of the instructions.

// reading is what is known of one thread.
type reading struct {
	ins     []api.Ins
	depth   map[int]int
	looked  map[int]bool
	effects map[string][2]int
	names   map[api.InsCode]string
}

func read(l []api.Ins) *reading {
	r := &reading{ins: l, depth: map[int]int{}, looked: map[int]bool{}, effects: effectsOf(), names: map[api.InsCode]string{}}
	for name, c := range codes() {
		r.names[c] = name
	}
	return r
}

// ways tells where one may go from an instruction.
func (r *reading) ways(at int) []int {
	switch r.names[r.ins[at].Code] {
	case "end":
		return nil
	case "jump":
		return []int{r.ins[at].A}
	case "jumpz", "jumpnz":
		return []int{r.ins[at].A, at + 1}
	}
	return []int{at + 1}
}

// least tells the least one that is come to and was not looked at.
func (r *reading) least() (int, bool) {
	for at := range r.ins {
		if _, comeTo := r.depth[at]; comeTo && !r.looked[at] {
			return at, true
		}
	}
	return 0, false
}

// isThere tells whether an instruction names what there is.
func (r *reading) isThere(m api.Module, i api.Ins) bool {
	have := map[string]int{"variable": len(m.Vars), "array": len(m.Arrays), "channel": len(m.Chans), "mutex": m.Mutexes, "condition": m.Conds,
		"local": m.Threads[0].Locals, "instruction": len(r.ins), "thread": len(m.Threads)}
	thing, names := thingsOf()[r.names[i.Code]]
	if !names {
		return true
	}
	return i.A < have[thing] && (r.names[i.Code] != "wait" || i.B < have["mutex"])
}

// check tells the depths of the first thread of a module that may be, or its error.
func (r *reading) check(m api.Module) ([]int, api.Errno) {
	if len(r.ins) == 0 {
		return nil, api.ErrEmpty
	}
	if slices.ContainsFunc(r.ins, func(i api.Ins) bool { return !r.isThere(m, i) }) {
		return nil, api.ErrSlot
	}
	r.depth[0] = 0
	for at, more := r.least(); more; at, more = r.least() {
		r.looked[at] = true
		if fault := r.look(at); fault != api.OK {
			return nil, fault
		}
	}
	depths := slices.Repeat([]int{-1}, len(r.ins))
	for at, d := range r.depth {
		depths[at] = d
	}
	return depths, api.OK
}

// look looks at one instruction: first at all that may be wrong with it, then at what comes behind.
func (r *reading) look(at int) api.Errno {
	name := r.names[r.ins[at].Code]
	left := r.depth[at] - r.effects[name][0]
	behind := left + r.effects[name][1]
	wrong := []struct {
		is    bool
		fault api.Errno
	}{
		{left < 0 || behind > most, api.ErrStack},
		{(name == "mark" || name == "end") && r.depth[at] > 0, api.ErrMark},
		{slices.Contains(r.ways(at), len(r.ins)), api.ErrRuns},
	}
	for _, w := range wrong {
		if w.is {
			return w.fault
		}
	}
	for _, to := range r.ways(at) {
		if d, known := r.depth[to]; known && d != behind {
			return api.ErrDepth
		}
		r.depth[to] = behind
	}
	return api.OK
}

// held holds the package against the second reading, and walks about where there is no error. It tells the error.
func held(t *testing.T, l []api.Ins) api.Errno {
	t.Helper()
	m := with(l)
	depths, fault := read(l).check(m)
	got, gotFault := Depths(m, 0)
	if gotFault != fault || !slices.Equal(got, depths) || Check(m) != fault {
		t.Fatalf("%s: Depths tells %v and %d, Check %d, want %v and %d", shown(m), got, gotFault, Check(m), depths, fault)
	}
	return fault
}

// P7.1, P7.2: all short rows of some instructions.
func TestAllShortRows(t *testing.T) {
	var alphabet []api.Ins
	for _, text := range []string{"push 1", "print", "add", "mark 3", "end"} {
		alphabet = append(alphabet, ins(text)...)
	}
	for _, name := range []string{"jump", "jumpz"} {
		for to := range 4 {
			alphabet = append(alphabet, ins(name+" "+itoa(to))...)
		}
	}
	seen := map[api.Errno]int{}
	for length := 1; length <= 4; length++ {
		row := make([]int, length)
		for {
			l := make([]api.Ins, length)
			for n, which := range row {
				l[n] = alphabet[which]
			}
			seen[heldFast(t, l)]++
			at := 0
			for at < length && row[at] == len(alphabet)-1 {
				row[at] = 0
				at++
			}
			if at == length {
				break
			}
			row[at]++
		}
	}
	for _, fault := range []api.Errno{api.OK, api.ErrSlot, api.ErrStack, api.ErrMark, api.ErrRuns, api.ErrDepth} {
		if seen[fault] == 0 {
			t.Errorf("no row had error %d", fault)
		}
	}
}

// shared is what the second reading knows of all rows: short rows are so many that the chapter is read once for them.
var shared = read(nil)

func heldFast(t *testing.T, l []api.Ins) api.Errno {
	t.Helper()
	r := &reading{ins: l, depth: map[int]int{}, looked: map[int]bool{}, effects: shared.effects, names: shared.names}
	m := api.Module{Threads: []api.Code{{Name: "t", Ins: l, Lines: make([]int, len(l))}}}
	fault := api.ErrSlot
	var depths []int
	if !slices.ContainsFunc(l, func(i api.Ins) bool { return i.Code != api.InsMark && i.A >= len(l) }) {
		depths, fault = r.walkOnly()
	}
	got, gotFault := Depths(m, 0)
	if gotFault != fault || !slices.Equal(got, depths) {
		t.Fatalf("%s: Depths tells %v and %d, want %v and %d", shown(m), got, gotFault, depths, fault)
	}
	return fault
}

// walkOnly is check of what names nothing that is missing.
func (r *reading) walkOnly() ([]int, api.Errno) {
	r.depth[0] = 0
	for at, more := r.least(); more; at, more = r.least() {
		r.looked[at] = true
		if fault := r.look(at); fault != api.OK {
			return nil, fault
		}
	}
	depths := slices.Repeat([]int{-1}, len(r.ins))
	for at, d := range r.depth {
		depths[at] = d
	}
	return depths, api.OK
}

// made makes a row of instructions whose depths are mostly the same, and mostly enough: each place has a depth ahead of time, and what stands there mostly fits.
func made(c *chooser) []api.Ins {
	length := 1 + c.below(30)
	depth := make([]int, length+1)
	for at := 1; at < length; at++ {
		depth[at] = max(0, depth[at-1]+c.below(3)-1)
	}
	named := codes()
	table := effectsOf()
	var l []api.Ins
	for at := range length {
		var fits []api.Ins
		for name, code := range named {
			i := api.Ins{Code: code}
			after := depth[at] - table[name][0] + table[name][1]
			to := c.below(length)
			jumps := name == "jump" || name == "jumpz" || name == "jumpnz"
			if jumps {
				i.A = to
			}
			if depth[at] < table[name][0] || name == "end" && depth[at] > 0 || name == "mark" && depth[at] > 0 {
				continue
			}
			if jumps && depth[to] != after || name != "jump" && name != "end" && depth[at+1] != after {
				continue
			}
			fits = append(fits, i)
		}
		if len(fits) == 0 || c.below(60) == 0 {
			l = append(l, api.Ins{Code: api.InsCode(1 + c.below(34))})
			continue
		}
		slices.SortFunc(fits, func(a, b api.Ins) int { return int(a.Code - b.Code) })
		l = append(l, fits[c.below(len(fits))])
	}
	if c.below(5) > 0 {
		l[length-1] = []api.Ins{{Code: api.InsEnd}, {Code: api.InsJump, A: 0}}[c.below(2)]
	}
	return l
}

// P7.1, P7.2, P7.4: made rows, and in each that may run walks in any way that Next allows.
func TestMadeRows(t *testing.T) {
	c := &chooser{state: 77}
	seen := map[api.Errno]int{}
	for range 4000 {
		l := made(c)
		fault := held(t, l)
		seen[fault]++
		if fault == api.OK {
			walk(t, c, with(l), 60)
		}
	}
	for _, fault := range []api.Errno{api.OK, api.ErrStack, api.ErrMark, api.ErrRuns, api.ErrDepth} {
		if seen[fault] < 100 {
			t.Errorf("error %d: %d rows", fault, seen[fault])
		}
	}
}

// walk goes about in a module that may run, from the first instruction of its first thread on, and looks at what is on the stack.
func walk(t *testing.T, c *chooser, m api.Module, steps int) {
	t.Helper()
	depths, _ := Depths(m, 0)
	at, stack := 0, 0
	for range steps {
		if at < 0 || at >= len(m.Threads[0].Ins) {
			t.Fatalf("%s: comes to %d", shown(m), at)
		}
		code := m.Threads[0].Ins[at].Code
		takes, puts, ok := Effect(code)
		if !ok || stack < takes || depths[at] != stack {
			t.Fatalf("%s: at %d are %d values, and %d are taken", shown(m), at, stack, takes)
		}
		if stack != 0 && (code == api.InsMark || code == api.InsEnd) {
			t.Fatalf("%s: at %d are %d values", shown(m), at, stack)
		}
		stack += puts - takes
		if stack > most {
			t.Fatalf("%s: behind %d are %d values", shown(m), at, stack)
		}
		next, fault := Next(m, 0, at)
		if fault != api.OK {
			t.Fatalf("%s: Next of %d tells %d", shown(m), at, fault)
		}
		if len(next) == 0 {
			return
		}
		at = next[c.below(len(next))]
	}
}

// P7.1, P7.2: rows of any instructions whatever, with numbers that are mostly there.
func TestAnyRows(t *testing.T) {
	c := &chooser{state: 5}
	for range 3000 {
		var l []api.Ins
		for range c.below(8) {
			i := api.Ins{Code: api.InsCode(1 + c.below(34)), A: c.below(3), B: c.below(2)}
			if i.Code != api.InsWait {
				i.B = 0
			}
			l = append(l, plain([]api.Ins{i})...)
		}
		held(t, l)
	}
}

// P7.1, P7.2, P7.4: rows that go up to the most values that there may be, and past it, in circles too.
func TestHighRows(t *testing.T) {
	c := &chooser{state: 9}
	for range 400 {
		up := 22 + c.below(6)
		text := again(up, "push 1")
		for range c.below(5) {
			text += []string{"add, ", "push 1, ", "neg, ", "recv 0, ", "cell 1, "}[c.below(5)]
		}
		l := ins(text)
		depth := 0
		table := effectsOf()
		for _, i := range l {
			name, _, _ := nameOf(i.Code)
			depth += table[name][1] - table[name][0]
		}
		l = append(l, ins(again(depth, "print")+"push 1, jumpz 0, end")...)
		if held(t, l) == api.OK {
			walk(t, c, with(l), 200)
		}
	}
}
