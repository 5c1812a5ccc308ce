package code

import (
	"sacristan/api"
	"sacristan/tree"
)

// most is how many parameters, captured values, arguments, and operations of a table there are at most.
const most = 200

// Effect is what an instruction takes and leaves.
func Effect(m api.Module, i api.Instr) (int, int, bool) {
	if n, ok := places(m, i.Op); ok && !below(i.A, n) {
		return 0, 0, false
	}
	switch i.Op {
	case api.OpInt, api.OpText, api.OpUnit, api.OpTrue, api.OpFalse, api.OpLocal, api.OpUp:
		return 0, 1, true
	case api.OpStore, api.OpRet, api.OpElse, api.OpPop:
		return 1, 0, true
	case api.OpClosure:
		return captures(m.Protos[i.A])
	case api.OpCall:
		return i.A + 1, 1, true
	case api.OpTail:
		return i.A + 1, 0, true
	case api.OpJump:
		return 0, 0, true
	case api.OpPrim:
		return tree.Takes(words[i.A]), 1, true
	case api.OpPerform:
		return 1, 1, true
	case api.OpHandle:
		return clauses(m.Handles[i.A]) + 1, 1, true
	case api.OpResume, api.OpDrop:
		return 2, 1, true
	case api.OpAgain:
		return 2, 0, true
	case api.OpWind:
		return 3, 1, true
	}
	return 0, 0, false
}

// places is how many things of a module an operation's A may be a place of, or how many numbers of arguments it may be; false of an operation whose A the module alone doesn't tell.
func places(m api.Module, op uint8) (int, bool) {
	switch op {
	case api.OpInt:
		return len(m.Ints), true
	case api.OpText, api.OpPerform:
		return len(m.Texts), true
	case api.OpClosure:
		return len(m.Protos), true
	case api.OpCall, api.OpTail:
		return most + 1, true
	case api.OpPrim:
		return len(words), true
	case api.OpHandle:
		return len(m.Handles), true
	}
	return 0, false
}

func below(a, n int) bool { return a >= 0 && a < n }

// captures is the effect of an OpClosure of a function.
func captures(p api.Proto) (int, int, bool) {
	if p.Ups < 0 {
		return 0, 0, false
	}
	return p.Ups, 1, true
}

// clauses is how many Funs a handle takes beside the one for what is handled.
func clauses(t api.Table) int {
	n := len(t.Ops)
	if t.Return {
		n++
	}
	if t.Finally {
		n++
	}
	return n
}
