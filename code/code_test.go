package code_test

import (
	"fmt"
	"math"
	"slices"
	"strings"
	"testing"

	"sacristan/api"
	"sacristan/code"
	"sacristan/tree"
)

// instr is an instruction.
func instr(op uint8, a int) api.Instr { return api.Instr{Op: op, A: a} }

// proto is a function with a row of instructions.
func proto(params, slots, ups int, row ...api.Instr) api.Proto {
	return api.Proto{Params: params, Slots: slots, Ups: ups, Code: row}
}

// sample is a module that may be, with an instruction of each operation, and new memory each time.
func sample() api.Module {
	var row []api.Instr
	for op := api.OpInt; op <= api.OpAgain; op++ {
		row = append(row, instr(op, 0))
	}
	return api.Module{
		Ints:  []int64{5, -7, 5},
		Texts: []string{"Ask", "", "Tell", "Ask"},
		Protos: []api.Proto{
			proto(0, 1, 0, instr(api.OpUnit, 0), instr(api.OpRet, 0)),
			proto(2, 4, 3, row...),
			proto(1, 2, 5, instr(api.OpRet, 0)),
		},
		Handles: []api.Table{{}, {Ops: []int{0}, Return: true}, {Ops: []int{2, 1, 3}, Finally: true}, {Ops: []int{0, 2}, Return: true, Finally: true}},
	}
}

// brief keeps a failure's line short, whatever a module is.
func brief(m api.Module) string { return fmt.Sprintf("%.300s", fmt.Sprintf("%+v", m)) }

func effect(t *testing.T, m api.Module, i api.Instr, takes, leaves int, ok bool) {
	t.Helper()
	for range 2 { // P0.5: to ask leaves nothing behind
		if a, b, got := code.Effect(m, i); a != takes || b != leaves || got != ok {
			t.Fatalf("Effect(%s, %v) = %d, %d, %v, want %d, %d, %v", brief(m), i, a, b, got, takes, leaves, ok)
		}
	}
}

func TestWords(t *testing.T) { // P9.1
	const all = "in neg not len i8 i16 i32 u8 u16 u32 fst snd cell get out + - * / % and or xor shl shr ushr < = cat at pair set"
	if got := strings.Join(code.Words(), " "); got != all {
		t.Errorf("Words() = %s\nwant %s", got, all)
	}
	for _, word := range code.Words() {
		if tree.Takes(word) < 0 {
			t.Errorf("%q is no word of a NodePrim", word)
		}
	}
}

func TestWordsAreNewMemory(t *testing.T) { // P0.3
	want := slices.Clone(code.Words())
	l := code.Words()
	for i := range l {
		l[i] = "x"
	}
	_ = append(l, "y")
	if got := code.Words(); !slices.Equal(got, want) {
		t.Errorf("Words() = %v, want %v", got, want)
	}
	effect(t, api.Module{}, instr(api.OpPrim, 15), 2, 1, true)
}

func TestEnds(t *testing.T) { // P9.1
	for op := range 256 {
		want := op == 11 || op == 12 || op == 13 || op == 22 // OpTail, OpRet, OpJump, OpAgain
		if got := code.Ends(uint8(op)); got != want {
			t.Errorf("Ends(%d) = %v, want %v", op, got, want)
		}
	}
}

func TestExample(t *testing.T) { // P9.1, the chapter's example
	effect(t, api.Module{}, instr(api.OpCall, 2), 3, 1, true)
}

func TestEffectOfEachOperation(t *testing.T) { // P9.1
	m := sample()
	for _, c := range []struct {
		op               uint8
		a, takes, leaves int
	}{
		{api.OpInt, 0, 0, 1}, {api.OpInt, 2, 0, 1}, {api.OpText, 0, 0, 1}, {api.OpText, 3, 0, 1},
		{api.OpUnit, 0, 0, 1}, {api.OpTrue, 0, 0, 1}, {api.OpFalse, 0, 0, 1},
		{api.OpLocal, 0, 0, 1}, {api.OpStore, 0, 1, 0}, {api.OpUp, 0, 0, 1},
		{api.OpClosure, 0, 0, 1}, {api.OpClosure, 1, 3, 1}, {api.OpClosure, 2, 5, 1},
		{api.OpCall, 0, 1, 1}, {api.OpCall, 7, 8, 1}, {api.OpCall, 200, 201, 1},
		{api.OpTail, 0, 1, 0}, {api.OpTail, 7, 8, 0}, {api.OpTail, 200, 201, 0},
		{api.OpRet, 0, 1, 0}, {api.OpJump, 0, 0, 0}, {api.OpElse, 0, 1, 0}, {api.OpPop, 0, 1, 0},
		{api.OpPerform, 0, 1, 1}, {api.OpPerform, 3, 1, 1},
		{api.OpHandle, 0, 1, 1}, {api.OpHandle, 1, 3, 1}, {api.OpHandle, 2, 5, 1}, {api.OpHandle, 3, 5, 1},
		{api.OpResume, 0, 2, 1}, {api.OpDrop, 0, 2, 1}, {api.OpAgain, 0, 2, 0}, {api.OpWind, 0, 3, 1},
	} {
		effect(t, m, instr(c.op, c.a), c.takes, c.leaves, true)
	}
}

func TestEffectOfEachWord(t *testing.T) { // P9.1
	takes := []int{
		0, 1, 1, 1, 1, 1, 1, 1, 1, 1, // in, neg, not, len, i8 .. u32
		1, 1, 1, 1, 1, // fst, snd, cell, get, out
		2, 2, 2, 2, 2, 2, 2, 2, 2, 2, 2, // + .. ushr
		2, 2, 2, 2, 2, 2, // <, =, cat, at, pair, set
	}
	for place, n := range takes {
		effect(t, api.Module{}, instr(api.OpPrim, place), n, 1, true)
	}
	if len(takes) != len(code.Words()) {
		t.Errorf("%d words, want %d", len(code.Words()), len(takes))
	}
}

// far are numbers that are no place of anything.
func far() []int {
	return []int{-1, -2, -200, math.MinInt, math.MinInt + 1, 4096, 1 << 20, 1 << 32, math.MaxInt - 1, math.MaxInt}
}

func TestEffectOfWhatIsNoPlace(t *testing.T) { // P9.1
	m := sample()
	for _, c := range []struct {
		op    uint8
		first int // the first A that is none
	}{
		{api.OpInt, 3}, {api.OpText, 4}, {api.OpPerform, 4}, {api.OpClosure, 3}, {api.OpHandle, 4},
		{api.OpPrim, 32}, {api.OpCall, 201}, {api.OpTail, 201},
	} {
		for _, a := range append(far(), c.first, c.first+1) {
			effect(t, m, instr(c.op, a), 0, 0, false)
		}
		if _, _, ok := code.Effect(m, instr(c.op, c.first-1)); !ok {
			t.Errorf("Effect of %d %d: false", c.op, c.first-1)
		}
	}
	for _, op := range []uint8{api.OpInt, api.OpText, api.OpPerform, api.OpClosure, api.OpHandle} {
		effect(t, api.Module{}, instr(op, 0), 0, 0, false)
	}
}

// Slots, captured values and instructions aren't asked for, nor is a 0.
func TestEffectAsksNoFurther(t *testing.T) { // P9.1
	for _, c := range []struct {
		op            uint8
		takes, leaves int
	}{
		{api.OpLocal, 0, 1}, {api.OpStore, 1, 0}, {api.OpUp, 0, 1}, {api.OpJump, 0, 0}, {api.OpElse, 1, 0},
		{api.OpUnit, 0, 1}, {api.OpTrue, 0, 1}, {api.OpFalse, 0, 1}, {api.OpRet, 1, 0}, {api.OpPop, 1, 0},
		{api.OpResume, 2, 1}, {api.OpDrop, 2, 1}, {api.OpAgain, 2, 0}, {api.OpWind, 3, 1},
	} {
		for _, a := range append(far(), 0, 1, 5, 200, 201, 256) {
			effect(t, sample(), instr(c.op, a), c.takes, c.leaves, true)
			effect(t, api.Module{}, instr(c.op, a), c.takes, c.leaves, true)
		}
	}
}

func TestNoSuchOperation(t *testing.T) { // P9.1
	for op := range 256 {
		_, _, ok := code.Effect(sample(), instr(uint8(op), 0))
		if want := op >= 1 && op <= 22; ok != want {
			t.Errorf("Effect of %d 0: %v, want %v", op, ok, want)
		}
		if !ok {
			for _, a := range append(far(), 0, 1) {
				effect(t, sample(), instr(uint8(op), a), 0, 0, false)
			}
		}
	}
}

// Effect answers of a module that may not be, too: what it doesn't ask for may be whatever it is.
func TestEffectOfModulesThatMayNotBe(t *testing.T) { // P9.1
	m := api.Module{
		Ints:    make([]int64, 5000),
		Texts:   []string{strings.Repeat("x", api.MaxText+1)},
		Protos:  []api.Proto{{Ups: -1}, {Ups: math.MinInt}, {Ups: 201, Params: -1}, {Ups: math.MaxInt}, {}},
		Handles: []api.Table{{Ops: []int{-1, -1, 77}}, {Ops: make([]int, 300), Return: true, Finally: true}},
	}
	effect(t, m, instr(api.OpInt, 4999), 0, 1, true)
	effect(t, m, instr(api.OpInt, 5000), 0, 0, false)
	effect(t, m, instr(api.OpText, 0), 0, 1, true)
	effect(t, m, instr(api.OpPerform, 0), 1, 1, true)
	effect(t, m, instr(api.OpClosure, 0), 0, 0, false)
	effect(t, m, instr(api.OpClosure, 1), 0, 0, false)
	effect(t, m, instr(api.OpClosure, 2), 201, 1, true)
	effect(t, m, instr(api.OpClosure, 3), math.MaxInt, 1, true)
	effect(t, m, instr(api.OpClosure, 4), 0, 1, true)
	effect(t, m, instr(api.OpHandle, 0), 4, 1, true)
	effect(t, m, instr(api.OpHandle, 1), 303, 1, true)
}
