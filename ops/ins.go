package ops

import (
	"cmp"
	"math"
	"strconv"

	"warp/api"
)

// part is of what an instruction has beside its Code: one of them, or several.
type part int

const (
	partA part = 1 << iota
	partB
	partNum
)

// maxPart is what A and B are at most.
const maxPart = 1<<16 - 1

// naming is what a Code names, and its own name.
type naming struct {
	name  string
	parts part
}

var namings = [...]naming{
	api.InsPush:     {"push", partNum},
	api.InsVar:      {"var", partA},
	api.InsLocal:    {"local", partA},
	api.InsCell:     {"cell", partA},
	api.InsSetVar:   {"setvar", partA},
	api.InsSetLocal: {"setlocal", partA},
	api.InsSetCell:  {"setcell", partA},
	api.InsNeg:      {"neg", 0},
	api.InsNot:      {"not", 0},
	api.InsEq:       {"eq", 0},
	api.InsNe:       {"ne", 0},
	api.InsLt:       {"lt", 0},
	api.InsLe:       {"le", 0},
	api.InsAdd:      {"add", 0},
	api.InsSub:      {"sub", 0},
	api.InsMul:      {"mul", 0},
	api.InsDiv:      {"div", 0},
	api.InsMod:      {"mod", 0},
	api.InsJump:     {"jump", partA},
	api.InsJumpZ:    {"jumpz", partA},
	api.InsJumpNZ:   {"jumpnz", partA},
	api.InsBool:     {"bool", 0},
	api.InsMark:     {"mark", partA},
	api.InsLock:     {"lock", partA},
	api.InsUnlock:   {"unlock", partA},
	api.InsWait:     {"wait", partA | partB},
	api.InsSignal:   {"signal", partA},
	api.InsAll:      {"all", partA},
	api.InsSend:     {"send", partA},
	api.InsRecv:     {"recv", partA},
	api.InsSpawn:    {"spawn", partA},
	api.InsJoin:     {"join", 0},
	api.InsPrint:    {"print", 0},
	api.InsEnd:      {"end", 0},
}

// namedBy tells an empty naming of a Code that is none: its name too is empty.
func namedBy(c api.InsCode) naming {
	if !within(0, len(namings)-1, int(c)) {
		return naming{}
	}
	return namings[c]
}

func (n naming) has(p part) bool { return n.parts&p != 0 }

// insMayBe tells whether an instruction has a Code, and of the rest just what that names.
func insMayBe(i api.Ins) bool {
	named := namedBy(i.Code)
	return named.name != "" &&
		mayStand(named.has(partA), 0, maxPart, i.A) &&
		mayStand(named.has(partB), 0, maxPart, i.B) &&
		mayStand(named.has(partNum), math.MinInt32, math.MaxInt32, i.Num)
}

// mayStand tells whether a part is between the two if it is named, and zero if it is not.
func mayStand[N int | int64](named bool, least, most, n N) bool {
	if !named {
		return n == 0
	}
	return within(least, most, n)
}

// within tells whether all of the numbers are between the two, these included.
func within[N cmp.Ordered](least, most N, numbers ...N) bool {
	for _, n := range numbers {
		if n < least || n > most {
			return false
		}
	}
	return true
}

// told tells the text of an instruction that may be.
func told(i api.Ins) string {
	named := namedBy(i.Code)
	text := named.name
	if named.has(partA) {
		text += " " + strconv.Itoa(i.A)
	}
	if named.has(partB) {
		text += " " + strconv.Itoa(i.B)
	}
	if named.has(partNum) {
		text += " " + strconv.FormatInt(i.Num, 10)
	}
	return text
}
