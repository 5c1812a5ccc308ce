package verify_test

import (
	"fmt"
	"math"
	"slices"
	"strings"
	"testing"

	"sacristan/api"
	"sacristan/code"
	"sacristan/verify"
)

// spoils are changes after which a module may not be, one for each limit.
func spoils() []func(m *api.Module) {
	return []func(m *api.Module){
		func(m *api.Module) { m.Ints = make([]int64, 4097) },
		func(m *api.Module) { m.Texts = append(m.Texts, make([]string, 4094)...) },
		func(m *api.Module) { m.Protos = append(m.Protos, slices.Repeat(m.Protos[:1], 4092)...) },
		func(m *api.Module) { m.Handles = make([]api.Table, 4097) },
		func(m *api.Module) { m.Texts[1] = strings.Repeat("x", api.MaxText+1) },
		func(m *api.Module) { m.Protos[0].Params = 1; m.Protos[0].Slots = 2 },
		func(m *api.Module) { m.Protos[0].Ups = 1 },
		func(m *api.Module) { m.Protos[3].Params = -1 },
		func(m *api.Module) { m.Protos[3].Params = 201 },
		func(m *api.Module) { m.Protos[3].Ups = math.MinInt },
		func(m *api.Module) { m.Protos[3].Ups = 201 },
		func(m *api.Module) { m.Protos[3].Slots = 200 },
		func(m *api.Module) { m.Protos[3].Slots = 257 },
		func(m *api.Module) { m.Protos[4].Code = nil },
		func(m *api.Module) { m.Protos[4].Code = append(units(16384), ret()) },
		func(m *api.Module) { m.Protos[4].Code[0].Op = 0 },
		func(m *api.Module) { m.Protos[4].Code[1].Op = 23 },
		func(m *api.Module) { m.Protos[4].Code[1].Op = 255 },
		func(m *api.Module) { m.Protos[4].Code[0].A = 1 },
		func(m *api.Module) { m.Protos[2].Code[1].A = 5 },
		func(m *api.Module) { m.Protos[2].Code[1].A = -1 },
		func(m *api.Module) { m.Protos[2].Code[4] = jump(math.MaxInt) }, // one that isn't reached
		func(m *api.Module) { m.Protos[2].Code[4] = jump(math.MinInt) },
		func(m *api.Module) { m.Protos[2].Code[4] = instr(api.OpLocal, 1) },
		func(m *api.Module) { m.Protos[2].Code[4] = instr(api.OpStore, -1) },
		func(m *api.Module) { m.Protos[2].Code[4] = instr(api.OpUp, 0) },
		func(m *api.Module) { m.Protos[2].Code[4] = instr(api.OpClosure, 5) },
		func(m *api.Module) { m.Protos[2].Code[4] = instr(api.OpCall, 201) },
		func(m *api.Module) { m.Protos[2].Code[4] = instr(api.OpTail, -1) },
		func(m *api.Module) { m.Protos[2].Code[4] = instr(api.OpPrim, 32) },
		func(m *api.Module) { m.Protos[2].Code[4] = instr(api.OpPerform, 3) },
		func(m *api.Module) { m.Protos[2].Code[4] = instr(api.OpHandle, 4) },
		func(m *api.Module) { m.Handles[1].Ops[0] = 3 },
		func(m *api.Module) { m.Handles[1].Ops[0] = -1 },
		func(m *api.Module) { m.Handles[2].Ops[0] = m.Handles[2].Ops[1] },
		func(m *api.Module) { m.Texts[1] = m.Texts[2] },
		func(m *api.Module) { m.Protos = nil },
		func(m *api.Module) { *m = api.Module{} },
	}
}

// TestModulesThatMayNotBe has modules with functions that are right, and that aren't.
func TestModulesThatMayNotBe(t *testing.T) { // P11.1
	for i, row := range [][]api.Instr{{unit(), ret()}, {pop()}, {jump(0)}} {
		for j, spoil := range spoils() {
			m := around(row...)
			if !code.May(m) {
				t.Fatalf("row %d may not be", i)
			}
			spoil(&m)
			if code.May(m) {
				t.Fatalf("spoil %d of row %d may be", j, i)
			}
			check(t, m, -1, api.ErrCode)
			for place := -2; place < 8; place++ {
				depths(t, m, place, nil)
			}
		}
	}
}

// TestTheFirstThatIsNot has modules of several functions that aren't right.
func TestTheFirstThatIsNot(t *testing.T) { // P11.1
	for bits := range 32 {
		m := around(unit(), ret())
		first, e := 0, api.OK
		for place := 4; place >= 0; place-- {
			if bits>>place&1 > 0 {
				m.Protos[place].Code = [][]api.Instr{{pop()}, {unit()}, {unit(), jump(0)}, append(units(257), ret()), {ret(), unit()}}[place]
				first, e = place, api.ErrCode
			}
		}
		check(t, m, first, e)
		for place, want := range [][]int{{0, 1}, {0, 1}, {0, 1, 0, 1, -1}, {0, 1}, {0, 1}} {
			if bits>>place&1 > 0 {
				want = nil
			}
			depths(t, m, place, want) // of a right one among others
		}
	}
}

func TestPlacesOfFunctions(t *testing.T) { // P11.1
	for _, m := range []api.Module{around(unit(), ret()), around(pop()), {Protos: []api.Proto{proto(0, 1, 0, unit(), ret())}}, {}} {
		for _, place := range []int{-1, -2, len(m.Protos), len(m.Protos) + 1, 4096, 1 << 32, math.MaxInt, math.MinInt, math.MinInt + 1} {
			depths(t, m, place, nil)
		}
	}
	least := api.Module{Protos: []api.Proto{proto(0, 1, 0, unit(), ret())}}
	check(t, least, 0, api.OK)
	depths(t, least, 0, []int{0, 1})
	least.Protos[0].Code = least.Protos[0].Code[:1]
	check(t, least, 0, api.ErrCode)
	depths(t, least, 0, nil)
}

// TestLongFunctions has as many instructions as there may be.
func TestLongFunctions(t *testing.T) { // P11.1
	row, want := make([]api.Instr, 0, api.MaxCode), make([]int, 0, api.MaxCode)
	for range 8191 {
		row, want = append(row, unit(), pop()), append(want, 0, 1)
	}
	right(t, append(want, 0, 1), append(row, unit(), ret())...)
	wrong(t, append(row, unit(), pop())...)
	// A way that goes there and back, from both ends.
	zigzag := make([]api.Instr, api.MaxCode)
	for i := range zigzag {
		zigzag[i] = jump(api.MaxCode - 1 - i)
		if i >= api.MaxCode/2 {
			zigzag[i] = jump(api.MaxCode - i)
		}
	}
	zigzag[api.MaxCode/2] = jump(0)
	right(t, make([]int, api.MaxCode), zigzag...)
	zigzag[api.MaxCode/2] = pop()
	wrong(t, zigzag...)
	// A fork at each second instruction.
	forks, heights := make([]api.Instr, 0, api.MaxCode), make([]int, 0, api.MaxCode)
	for i := range 8191 {
		forks, heights = append(forks, unit(), els(i*8189%8192*2)), append(heights, 0, 1)
	}
	right(t, append(heights, 0, 1), append(forks, unit(), ret())...)
	forks[8001].A++
	wrong(t, append(forks, unit(), ret())...)
}

// TestManyFunctions has as many functions as there may be.
func TestManyFunctions(t *testing.T) { // P11.1
	m := api.Module{Protos: make([]api.Proto, api.MaxList)}
	for i := range m.Protos {
		m.Protos[i] = proto(0, 1, 0, append(units(i%256), unit(), ret())...)
	}
	check(t, m, 0, api.OK)
	for place := range 300 {
		depths(t, m, place*13, counted(place*13%256+2))
	}
	m.Protos[4095].Code = units(1)
	check(t, m, 4095, api.ErrCode)
	depths(t, m, 4095, nil)
	depths(t, m, 4094, counted(256))
}

// Only its instructions count: what they have of parameters, slots and captured values is none of the stack's.
func TestSizesDoNotMatter(t *testing.T) { // P11.1
	for _, p := range []api.Proto{proto(0, 1, 0), proto(200, 256, 200), proto(1, 2, 7), proto(0, 256, 0)} {
		m := around()
		m.Protos[1] = p
		m.Protos[1].Code = []api.Instr{instr(api.OpLocal, 0), ret()}
		check(t, m, 0, api.OK)
		depths(t, m, 1, []int{0, 1})
		m.Protos[1].Code = []api.Instr{ret()}
		check(t, m, 1, api.ErrCode)
		depths(t, m, 1, nil)
	}
}

// What is handed in stays as it is, the room behind its lists' ends, too.
func TestNothingIsChanged(t *testing.T) { // P0.3
	whole := around(unit(), els(4), unit(), ret(), unit(), ret(), pop())
	told := fmt.Sprintf("%#v", whole)
	short := whole
	short.Ints, short.Texts, short.Handles, short.Protos = short.Ints[:1], short.Texts[:1], short.Handles[:2], slices.Clone(short.Protos[:2])
	short.Protos[1].Code = short.Protos[1].Code[:6]
	check(t, whole, 0, api.OK)
	check(t, short, 0, api.OK)
	depths(t, whole, 1, []int{0, 1, 0, 1, 0, 1, -1})
	depths(t, short, 1, []int{0, 1, 0, 1, 0, 1})
	short.Protos[1].Code = short.Protos[1].Code[:5] // the end counts, not what stands behind it
	check(t, short, 1, api.ErrCode)
	depths(t, short, 1, nil)
	if got := fmt.Sprintf("%#v", whole); got != told {
		t.Errorf("%s was changed to %s", told, got)
	}
}

// An answer is new memory, and nothing is kept of a module: what is written into it counts at the next call.
func TestNothingIsKept(t *testing.T) { // P0.3, P0.5
	m := around(unit(), unit(), pop(), ret())
	first, other := verify.Depths(m, 1), verify.Depths(m, 1)
	for i := range first {
		first[i] = 77
	}
	_ = append(first, 78)
	if want := []int{0, 1, 2, 1}; !slices.Equal(other, want) {
		t.Errorf("another answer is %v, want %v", other, want)
	}
	right(t, []int{0, 1, 2, 1}, m.Protos[1].Code...)
	m.Protos[1].Code[1] = pop()
	check(t, m, 1, api.ErrCode)
	m.Protos[1].Code[2] = unit()
	check(t, m, 0, api.OK)
	depths(t, m, 1, []int{0, 1, 0, 1})
	m.Protos[4].Code[0] = instr(api.OpClosure, 4)
	check(t, m, 4, api.ErrCode)
	m.Protos[4].Ups = 0
	check(t, m, 0, api.OK)
	m.Texts = m.Texts[:2]
	check(t, m, -1, api.ErrCode)
}

func TestEmptyListsAreNone(t *testing.T) { // P0.4
	for _, row := range [][]api.Instr{{unit(), ret()}, {pop()}, {}} {
		with := api.Module{Ints: []int64{}, Texts: []string{}, Protos: []api.Proto{proto(0, 1, 0, row...)}, Handles: []api.Table{}}
		without := api.Module{Protos: with.Protos}
		place, e := verify.Check(with)
		check(t, without, place, e)
		depths(t, without, 0, verify.Depths(with, 0))
	}
	check(t, api.Module{Protos: []api.Proto{}}, -1, api.ErrCode)
	m := around(unit(), instr(api.OpHandle, 0), ret())
	check(t, m, 0, api.OK)
	m.Handles[0].Ops = []int{}
	check(t, m, 0, api.OK)
	depths(t, m, 1, []int{0, 1, 1})
}
