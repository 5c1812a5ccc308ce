package code

import (
	"slices"

	"sacristan/api"
)

// May tells whether a module may be.
func May(m api.Module) bool {
	if !fits(m) || !begins(m) {
		return false
	}
	long := func(s string) bool { return len(s) > api.MaxText }
	badTable := func(t api.Table) bool { return !table(m, t) }
	badProto := func(p api.Proto) bool { return !proto(m, p) }
	return !slices.ContainsFunc(m.Texts, long) && !slices.ContainsFunc(m.Handles, badTable) && !slices.ContainsFunc(m.Protos, badProto)
}

// fits tells whether no list of a module is too long.
func fits(m api.Module) bool {
	return max(len(m.Ints), len(m.Texts), len(m.Protos), len(m.Handles)) <= api.MaxList
}

// begins tells whether there is a function that can be called without anything.
func begins(m api.Module) bool {
	return len(m.Protos) > 0 && m.Protos[0].Params == 0 && m.Protos[0].Ups == 0
}

// table tells whether a table's operations are places of texts, and unlike.
func table(m api.Module, t api.Table) bool {
	if len(t.Ops) > most {
		return false
	}
	ops := make(map[string]struct{}, len(t.Ops))
	for _, op := range t.Ops {
		if !below(op, len(m.Texts)) {
			return false
		}
		// By its text: two places may have one.
		ops[m.Texts[op]] = struct{}{}
	}
	return len(ops) == len(t.Ops)
}

// proto tells whether a function of a module is right.
func proto(m api.Module, p api.Proto) bool {
	if !below(p.Params, most+1) || !below(p.Ups, most+1) || p.Slots <= p.Params || p.Slots > api.MaxSlots {
		return false
	}
	if len(p.Code) == 0 || len(p.Code) > api.MaxCode {
		return false
	}
	bad := func(i api.Instr) bool { return !instruction(m, p, i) }
	return !slices.ContainsFunc(p.Code, bad)
}

// instruction tells whether there is such an operation, and its A is one as told.
func instruction(m api.Module, p api.Proto, i api.Instr) bool {
	if _, _, ok := Effect(m, i); !ok {
		return false
	}
	if _, ok := places(m, i.Op); ok {
		return true // Effect has asked for A
	}
	return below(i.A, within(p, i.Op))
}

// within is how many things of its function an operation's A may be a place of; of one that goes by none that is 1, since A is 0 there.
func within(p api.Proto, op uint8) int {
	switch op {
	case api.OpLocal, api.OpStore:
		return p.Slots
	case api.OpUp:
		return p.Ups
	case api.OpJump, api.OpElse:
		return len(p.Code)
	}
	return 1
}
