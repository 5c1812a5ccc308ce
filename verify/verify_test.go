package verify_test

import (
	"fmt"
	"slices"
	"testing"

	"sacristan/api"
	"sacristan/code"
	"sacristan/verify"
)

// instr is an instruction.
func instr(op uint8, a int) api.Instr { return api.Instr{Op: op, A: a} }

// proto is a function with a row of instructions.
func proto(params, slots, ups int, row ...api.Instr) api.Proto {
	return api.Proto{Params: params, Slots: slots, Ups: ups, Code: row}
}

// unit, pop, ret, jump and els are the instructions that most rows are of.
func unit() api.Instr      { return instr(api.OpUnit, 0) }
func pop() api.Instr       { return instr(api.OpPop, 0) }
func ret() api.Instr       { return instr(api.OpRet, 0) }
func jump(a int) api.Instr { return instr(api.OpJump, a) }
func els(a int) api.Instr  { return instr(api.OpElse, a) }

// units are so many values, put on the stack.
func units(n int) []api.Instr { return slices.Repeat([]api.Instr{unit()}, n) }

// around is a module whose second function has these instructions; its other functions are right. Its memory is new each time.
func around(row ...api.Instr) api.Module {
	return api.Module{
		Ints:  []int64{5, -7},
		Texts: []string{"Ask", "", "Tell"},
		Protos: []api.Proto{
			proto(0, 1, 0, unit(), ret()),
			proto(2, 4, 3, slices.Clone(row)...),
			proto(0, 1, 0, instr(api.OpTrue, 0), els(0), unit(), ret(), pop()),
			proto(200, 256, 200, unit(), ret()),
			proto(1, 2, 2, unit(), ret()),
		},
		Handles: []api.Table{{}, {Ops: []int{0}, Return: true}, {Ops: []int{2, 1}, Finally: true}, {Ops: []int{1, 0, 2}, Return: true, Finally: true}},
	}
}

// brief keeps a failure's line short, whatever it tells.
func brief(x any) string { return fmt.Sprintf("%.400s", fmt.Sprintf("%v", x)) }

func check(t *testing.T, m api.Module, place int, e api.Errno) {
	t.Helper()
	for range 2 { // P0.5: to ask leaves nothing behind
		if got, err := verify.Check(m); got != place || err != e {
			t.Fatalf("Check(%s) = %d, %v, want %d, %v", brief(m), got, err, place, e)
		}
	}
}

func depths(t *testing.T, m api.Module, place int, want []int) {
	t.Helper()
	for range 2 { // P0.5
		if got := verify.Depths(m, place); !slices.Equal(got, want) {
			t.Fatalf("Depths(%s, %d) = %s, want %s", brief(m), place, brief(got), brief(want))
		}
	}
}

// right asks that a function of these instructions is right, with these depths.
func right(t *testing.T, want []int, row ...api.Instr) {
	t.Helper()
	m := around(row...)
	check(t, m, 0, api.OK)
	depths(t, m, 1, want)
}

// wrong asks that a function of these instructions isn't right, though it may be.
func wrong(t *testing.T, row ...api.Instr) {
	t.Helper()
	m := around(row...)
	if !code.May(m) {
		t.Fatalf("%s may not be", brief(m))
	}
	check(t, m, 1, api.ErrCode)
	depths(t, m, 1, nil)
}

// counted are the numbers from 0 on.
func counted(n int) []int {
	l := make([]int, n)
	for i := range l {
		l[i] = i
	}
	return l
}

func TestExample(t *testing.T) { // P11.1, the chapter's example
	wrong(t, pop())
	wrong(t, pop(), unit(), ret())
}

// effect is an instruction that goes on behind itself, with what it takes and leaves.
type effect struct {
	i             api.Instr
	takes, leaves int
}

// going are instructions of all operations whose instructions go on behind them, but OpElse.
func going() []effect {
	l := []effect{
		{instr(api.OpInt, 1), 0, 1}, {instr(api.OpText, 2), 0, 1}, {unit(), 0, 1}, {instr(api.OpTrue, 0), 0, 1}, {instr(api.OpFalse, 0), 0, 1},
		{instr(api.OpLocal, 3), 0, 1}, {instr(api.OpStore, 3), 1, 0}, {instr(api.OpUp, 2), 0, 1}, {pop(), 1, 0},
		{instr(api.OpClosure, 0), 0, 1}, {instr(api.OpClosure, 1), 3, 1}, {instr(api.OpClosure, 3), 200, 1}, {instr(api.OpClosure, 4), 2, 1},
		{instr(api.OpCall, 0), 1, 1}, {instr(api.OpCall, 1), 2, 1}, {instr(api.OpCall, 200), 201, 1},
		{instr(api.OpPerform, 0), 1, 1}, {instr(api.OpPerform, 2), 1, 1},
		{instr(api.OpHandle, 0), 1, 1}, {instr(api.OpHandle, 1), 3, 1}, {instr(api.OpHandle, 2), 4, 1}, {instr(api.OpHandle, 3), 6, 1},
		{instr(api.OpResume, 0), 2, 1}, {instr(api.OpDrop, 0), 2, 1}, {instr(api.OpWind, 0), 3, 1},
	}
	for place := range 32 {
		takes := 2
		switch {
		case place == 0: // in
			takes = 0
		case place < 15: // neg .. out
			takes = 1
		}
		l = append(l, effect{instr(api.OpPrim, place), takes, 1})
	}
	return l
}

// ending are instructions of all operations with which a function ends.
func ending() []effect {
	return []effect{
		{instr(api.OpTail, 0), 1, 0}, {instr(api.OpTail, 1), 2, 0}, {instr(api.OpTail, 200), 201, 0},
		{ret(), 1, 0}, {instr(api.OpAgain, 0), 2, 0},
	}
}

// TestWhatIsTaken has, ahead of each instruction, just as much as it takes, more, and less.
func TestWhatIsTaken(t *testing.T) { // P11.1
	for _, e := range going() {
		for n := max(0, e.takes-2); n < e.takes; n++ {
			wrong(t, append(units(n), e.i, unit(), ret())...)
		}
		for n := e.takes; n < e.takes+3; n++ {
			behind := n - e.takes + e.leaves
			right(t, append(counted(n+1), behind, behind+1), append(units(n), e.i, unit(), ret())...)
		}
	}
	for _, e := range ending() {
		for n := max(0, e.takes-2); n < e.takes; n++ {
			wrong(t, append(units(n), e.i)...)
		}
		for n := e.takes; n < e.takes+3; n++ { // what is left on the stack doesn't matter
			right(t, counted(n+1), append(units(n), e.i)...)
		}
	}
	wrong(t, els(1), unit(), ret())
	right(t, []int{0, 1, 0, 1}, unit(), els(2), unit(), ret())
	right(t, []int{0, 1, 2, 1}, unit(), unit(), els(3), ret())
}

// TestWhatIsLeft has, behind each instruction, as much as may be on the stack, and one more.
func TestWhatIsLeft(t *testing.T) { // P11.1
	right(t, counted(257), append(units(256), ret())...)
	wrong(t, append(units(257), ret())...)
	wrong(t, append(units(300), ret())...)
	for _, e := range going() {
		for n := 254; n <= 256; n++ {
			row := append(units(n), e.i, ret())
			if behind := n - e.takes + e.leaves; behind <= 256 {
				right(t, append(counted(n+1), behind), row...)
			} else {
				wrong(t, row...)
			}
		}
		wrong(t, append(units(257), e.i, ret())...)
	}
	for _, e := range ending() {
		right(t, counted(257), append(units(256), e.i)...)
		wrong(t, append(units(257), e.i)...)
	}
	right(t, append(counted(257), 256), append(units(256), jump(257), ret())...)
	wrong(t, append(units(257), jump(258), ret())...)
	right(t, append(counted(257), 255), append(units(256), els(257), ret())...)
	wrong(t, append(units(257), els(258), ret())...)
	// It counts what is on the stack, not how much was put there.
	row, want := []api.Instr{}, []int{}
	for range 1000 {
		row, want = append(row, unit(), pop()), append(want, 0, 1)
	}
	right(t, append(want, 0, 1), append(row, unit(), ret())...)
}

// TestTheNextOne has each instruction as the last one.
func TestTheNextOne(t *testing.T) { // P11.1
	for _, e := range going() {
		wrong(t, append(units(e.takes), e.i)...)
		wrong(t, append(units(e.takes+1), e.i)...)
	}
	for _, e := range ending() {
		right(t, counted(e.takes+1), append(units(e.takes), e.i)...)
	}
	wrong(t, unit(), els(0))
	wrong(t, jump(2), jump(1), unit(), els(1))
	wrong(t, unit(), unit(), pop())
	right(t, []int{0}, jump(0))
	right(t, []int{0, 1, 0}, unit(), pop(), jump(0))
	right(t, []int{0, 1, 0, 1}, jump(2), ret(), unit(), jump(1))
}

// TestWays has functions with several ways through them.
func TestWays(t *testing.T) { // P11.1
	// Two ways come together with as many values, and without any.
	right(t, []int{0, 1, 0, 1, 0, 1}, instr(api.OpTrue, 0), els(4), unit(), jump(5), unit(), ret())
	right(t, []int{0, 1, 0, 1, 0, 0, 1}, unit(), els(4), unit(), pop(), jump(5), unit(), ret())
	// One of them has a value more, or less.
	wrong(t, unit(), els(3), unit(), unit(), ret())
	wrong(t, unit(), els(5), unit(), unit(), jump(6), unit(), ret())
	wrong(t, unit(), els(4), unit(), jump(6), unit(), unit(), ret())
	wrong(t, unit(), unit(), unit(), els(5), pop(), ret())
	right(t, []int{0, 1, 2, 3, 2, 2, 1}, unit(), unit(), unit(), els(5), jump(5), pop(), ret())
	// Each end has a depth of its own.
	right(t, []int{0, 1, 0, 1, 0, 1, 2}, unit(), els(4), unit(), ret(), unit(), unit(), instr(api.OpAgain, 0))
	wrong(t, unit(), els(4), unit(), ret(), unit(), instr(api.OpAgain, 0))
	wrong(t, unit(), els(4), ret(), ret(), unit(), ret())
	wrong(t, unit(), els(4), unit(), ret(), ret(), ret())
	// It goes where the A tells, not elsewhere.
	right(t, []int{0, -1, 0, 1}, jump(2), pop(), unit(), ret())
	wrong(t, jump(1), pop(), unit(), ret())
	right(t, []int{0, 1, 0, 1, 0}, unit(), els(4), unit(), ret(), jump(2))
}

// TestRounds has functions that go on where they were.
func TestRounds(t *testing.T) { // P11.1
	right(t, []int{0}, jump(0))
	right(t, []int{0, 1, 0, 0, 1}, unit(), els(3), jump(0), unit(), ret())
	right(t, []int{0, 1, 2, 1}, unit(), unit(), els(1), ret())
	right(t, []int{0, 1, 1}, unit(), jump(2), jump(1))
	right(t, append(counted(256), 256), append(units(256), jump(256))...)
	// A value more, or less, each time round.
	wrong(t, unit(), jump(0))
	wrong(t, unit(), unit(), pop(), jump(0))
	wrong(t, unit(), unit(), pop(), jump(2))
	wrong(t, unit(), els(1), unit(), ret())
	wrong(t, unit(), unit(), els(0), ret())
	wrong(t, unit(), unit(), els(2), ret())
	wrong(t, append(units(256), pop(), jump(256))...)
}

// TestWhatIsNotReached has instructions that nobody looks at.
func TestWhatIsNotReached(t *testing.T) { // P11.1
	for _, e := range ending() {
		row := append(units(e.takes), e.i)
		want := counted(e.takes + 1)
		right(t, append(want, -1), append(row, pop())...)                                       // takes more than there is
		right(t, append(want, -1), append(row, unit())...)                                      // without a next one
		right(t, append(want, -1, -1), append(row, unit(), jump(0))...)                         // another depth of the first one
		right(t, append(want, -1, -1, -1), append(row, unit(), els(e.takes), els(0))...)        // and of others
		right(t, append(want, slices.Repeat([]int{-1}, 300)...), append(row, units(300)...)...) // leaves too much
		right(t, append(want, -1, -1, -1), append(row, unit(), unit(), jump(e.takes+1))...)     // and goes round
	}
	right(t, []int{0, -1, 0, 1}, jump(2), jump(0), unit(), ret())
	right(t, []int{0, -1, -1, 0, 1}, jump(3), pop(), pop(), unit(), ret())
	right(t, []int{0, -1}, jump(0), els(0))
	// What is reached by a way alone is.
	right(t, []int{0, 1, 0, 1, -1, 0, 1}, unit(), els(5), unit(), ret(), pop(), unit(), ret())
	wrong(t, unit(), els(4), unit(), ret(), pop(), unit(), ret())
}
