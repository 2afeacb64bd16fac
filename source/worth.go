package source

import "warp/api"

// worth works an expression out, from the left.
func (d *step) worth(e *api.Expr) int64 {
	switch e.Kind {
	case api.ExprNum:
		return e.Num
	case api.ExprName:
		if e.Local {
			return d.self().locals[e.Slot]
		}
		return d.read(e.Slot)
	case api.ExprCell:
		return d.read(d.place(e.Slot, d.worth(&e.Args[0])))
	case api.ExprNeg:
		return made(-d.worth(&e.Args[0]))
	case api.ExprNot:
		return truth(d.worth(&e.Args[0]) == 0)
	}
	return d.joined(e)
}

// joined is what an operator between two makes: of || and && the right one is worked out just where it counts.
func (d *step) joined(e *api.Expr) int64 {
	a := d.worth(&e.Args[0])
	if e.Op == api.OpOr && a != 0 || e.Op == api.OpAnd && a == 0 {
		return truth(a != 0)
	}
	b := d.worth(&e.Args[1])
	switch e.Op {
	case api.OpEq:
		return truth(a == b)
	case api.OpNe:
		return truth(a != b)
	case api.OpLt:
		return truth(a < b)
	case api.OpLe:
		return truth(a <= b)
	case api.OpAdd:
		return made(a + b)
	case api.OpSub:
		return made(a - b)
	case api.OpMul:
		return made(a * b)
	case api.OpDiv:
		return made(a / divisor(b))
	case api.OpMod:
		return made(a % divisor(b))
	}
	return truth(b != 0)
}

func truth(is bool) int64 {
	if is {
		return 1
	}
	return 0
}

// made is what was made of values, if it is one.
func made(v int64) int64 {
	if !isValue(v) {
		panic(api.TrapRange)
	}
	return v
}

// divisor is what may be divided by.
func divisor(v int64) int64 {
	if v == 0 {
		panic(api.TrapZero)
	}
	return v
}

// place is that of an array's cell among all cells.
func (d *step) place(array int, index int64) int {
	least, most := d.prog.edges[array], d.prog.edges[array+1]
	if index < 0 || index >= int64(most-least) {
		panic(api.TrapIndex)
	}
	return least + int(index)
}

func (d *step) read(cell int) int64 {
	v := d.cells[cell]
	d.event.Accesses = append(d.event.Accesses, api.Access{Cell: cell, Value: v})
	return v
}

func (d *step) write(cell int, v int64) {
	d.cells[cell] = v
	d.event.Accesses = append(d.event.Accesses, api.Access{Cell: cell, Write: true, Value: v})
}

// store puts a value into a local, or else into a variable.
func (d *step) store(slot int, local bool, v int64) {
	if local {
		d.self().locals[slot] = v
		return
	}
	d.write(slot, v)
}
