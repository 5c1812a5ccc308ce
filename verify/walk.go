package verify

import (
	"slices"

	"sacristan/api"
	"sacristan/code"
)

// unreached is the depth of an instruction that no way has come to.
const unreached = -1

// walk goes all ways through a function of a module that may be.
type walk struct {
	module api.Module
	row    []api.Instr
	depths []int
	// todo are the instructions that are reached, but behind which nobody was yet.
	todo []int
}

// through are the depths of a row of instructions, and whether a function of them is right.
func through(m api.Module, row []api.Instr) ([]int, bool) {
	w := walk{module: m, row: row, depths: slices.Repeat([]int{unreached}, len(row))}
	ok := w.reach(0, 0)
	for ok && len(w.todo) > 0 {
		last := len(w.todo) - 1
		at := w.todo[last]
		w.todo = w.todo[:last]
		ok = w.step(at)
	}
	return w.depths, ok
}

// reach comes to an instruction, and tells whether there is one, and it has no other depth.
func (w *walk) reach(at, depth int) bool {
	if at == len(w.row) {
		return false
	}
	if w.depths[at] == unreached {
		w.depths[at] = depth
		w.todo = append(w.todo, at)
	}
	return w.depths[at] == depth
}

// step goes on behind an instruction, and tells whether that can't go wrong.
func (w *walk) step(at int) bool {
	i, depth := w.row[at], w.depths[at]
	takes, leaves, _ := code.Effect(w.module, i) // a module that may be has an effect of each instruction
	behind := depth - takes + leaves
	if takes > depth || behind > api.MaxHigh {
		return false
	}
	if !code.Ends(i.Op) && !w.reach(at+1, behind) {
		return false
	}
	return !jumps(i.Op) || w.reach(i.A, behind)
}

// jumps tells whether an operation goes on where its A tells.
func jumps(op uint8) bool { return op == api.OpJump || op == api.OpElse }
