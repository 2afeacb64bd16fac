package verify

import "warp/api"

// asker tells whether what an instruction names is there.
type asker func(i api.Ins) bool

// askers tells, of each Code that names something of the module, or of the thread, how it is asked for. A Code that is missing names nothing that could be missing.
func askers(m api.Module, c api.Code) map[api.InsCode]asker {
	variable, local, array := oneOf(len(m.Vars)), oneOf(c.Locals), oneOf(len(m.Arrays))
	instruction, thread := oneOf(len(c.Ins)), oneOf(len(m.Threads))
	mutex, condition, channel := oneOf(m.Mutexes), oneOf(m.Conds), oneOf(len(m.Chans))
	return map[api.InsCode]asker{
		api.InsVar:      variable,
		api.InsSetVar:   variable,
		api.InsLocal:    local,
		api.InsSetLocal: local,
		api.InsCell:     array,
		api.InsSetCell:  array,
		api.InsJump:     instruction,
		api.InsJumpZ:    instruction,
		api.InsJumpNZ:   instruction,
		api.InsLock:     mutex,
		api.InsUnlock:   mutex,
		api.InsWait:     func(i api.Ins) bool { return condition(i) && isOne(i.B, m.Mutexes) },
		api.InsSignal:   condition,
		api.InsAll:      condition,
		api.InsSend:     channel,
		api.InsRecv:     channel,
		api.InsSpawn:    thread,
	}
}

// oneOf asks whether A is one of so many things.
func oneOf(count int) asker {
	return func(i api.Ins) bool { return isOne(i.A, count) }
}

// isOne tells whether a number is that of one of so many things, that are numbered from 0 on.
func isOne(n, count int) bool { return n >= 0 && n < count }

// namesWhatIs tells whether all that a thread's instructions name is there, be they come to or not.
func namesWhatIs(m api.Module, c api.Code) bool {
	asked := askers(m, c)
	for _, i := range c.Ins {
		if isThere, names := asked[i.Code]; names && !isThere(i) {
			return false
		}
	}
	return true
}
