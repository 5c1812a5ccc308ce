package code_test

import (
	"math"
	"slices"
	"strconv"
	"strings"
	"testing"

	"sacristan/api"
	"sacristan/code"
)

func may(t *testing.T, m api.Module, want bool, what string) {
	t.Helper()
	for range 2 { // P0.5: to ask leaves nothing behind
		if got := code.May(m); got != want {
			t.Fatalf("%s: May(%s) = %v, want %v", what, brief(m), got, want)
		}
	}
}

// numbered are so many texts, all unlike.
func numbered(n int) []string {
	l := make([]string, n)
	for i := range l {
		l[i] = strconv.Itoa(i)
	}
	return l
}

// counted are the numbers from 0 on.
func counted(n int) []int {
	l := make([]int, n)
	for i := range l {
		l[i] = i
	}
	return l
}

func TestMay(t *testing.T) { // P9.1
	may(t, sample(), true, "the sample")
	may(t, api.Module{Protos: []api.Proto{proto(0, 1, 0, instr(api.OpUnit, 0))}}, true, "the least one")
	may(t, api.Module{}, false, "nothing")
	m := sample()
	m.Protos = nil
	may(t, m, false, "no function")
	m.Protos = []api.Proto{}
	may(t, m, false, "an empty list of functions")
}

func TestMayOfLongLists(t *testing.T) { // P9.1
	for _, c := range []struct {
		what string
		make func(m *api.Module, n int)
	}{
		{"numbers", func(m *api.Module, n int) { m.Ints = make([]int64, n) }},
		{"texts", func(m *api.Module, n int) { m.Texts = slices.Repeat(m.Texts[:1], n) }},
		{"functions", func(m *api.Module, n int) { m.Protos = slices.Repeat(m.Protos[:1], n) }},
		{"tables", func(m *api.Module, n int) { m.Handles = make([]api.Table, n) }},
	} {
		for n, want := range map[int]bool{1: true, 4095: true, 4096: true, 4097: false, 5000: false} {
			m := sample()
			m.Protos, m.Handles = m.Protos[:1], m.Handles[:2]
			c.make(&m, n)
			may(t, m, want, strconv.Itoa(n)+" "+c.what)
		}
	}
}

// TestMayOfAllThatIsGreatest has as much of all as may be.
func TestMayOfAllThatIsGreatest(t *testing.T) { // P9.1
	long := strings.Repeat("x", api.MaxText)
	m := api.Module{Ints: make([]int64, 4096), Texts: append(numbered(4095), long), Handles: slices.Repeat([]api.Table{{Ops: counted(200), Return: true, Finally: true}}, 4096)}
	row := slices.Repeat([]api.Instr{instr(api.OpInt, 4095), instr(api.OpText, 4095), instr(api.OpLocal, 255), instr(api.OpUp, 199), instr(api.OpCall, 200), instr(api.OpClosure, 4095), instr(api.OpHandle, 4095), instr(api.OpJump, 16383)}, 2048)
	m.Protos = slices.Repeat([]api.Proto{proto(200, 256, 200, row[:8]...)}, 4096)
	m.Protos[0] = proto(0, 256, 0, instr(api.OpClosure, 4095))
	for i := range m.Protos[1:] {
		m.Protos[1+i].Code = []api.Instr{instr(api.OpUp, 199)}
	}
	m.Protos[4095].Code = row
	may(t, m, true, "all that is greatest")
	m.Protos[4095].Code = append(slices.Clone(row), instr(api.OpPop, 0))
	may(t, m, false, "an instruction more")
	m.Protos[4095].Code = row
	m.Texts[4095] += "x"
	may(t, m, false, "a byte more")
}

func TestMayOfTexts(t *testing.T) { // P9.1
	for n, want := range map[int]bool{0: true, 65535: true, 65536: true, 65537: false, 1 << 20: false} {
		for place := range 4 {
			m := sample()
			m.Texts[place] = strings.Repeat("\xff", n)
			m.Handles = nil
			m.Protos[1].Code = []api.Instr{instr(api.OpText, place)}
			may(t, m, want, strconv.Itoa(n)+" bytes")
		}
	}
}

func TestMayOfTheFirstFunction(t *testing.T) { // P9.1
	for _, c := range []struct {
		p    api.Proto
		want bool
	}{
		{proto(0, 1, 0, instr(api.OpUnit, 0)), true},
		{proto(0, 256, 0, instr(api.OpUnit, 0)), true},
		{proto(1, 2, 0, instr(api.OpUnit, 0)), false},
		{proto(0, 1, 1, instr(api.OpUnit, 0)), false},
		{proto(200, 201, 200, instr(api.OpUnit, 0)), false},
		{proto(-1, 1, 0, instr(api.OpUnit, 0)), false},
		{proto(0, 1, -1, instr(api.OpUnit, 0)), false},
	} {
		m := sample()
		m.Protos[0] = c.p
		may(t, m, c.want, "the first function")
	}
	// Another one may have parameters, and capture something.
	m := sample()
	m.Protos[2] = proto(200, 201, 200, instr(api.OpUnit, 0))
	may(t, m, true, "the last function")
}

// TestMayOfSizes has all sizes that matter of parameters, slots and captured values.
func TestMayOfSizes(t *testing.T) { // P9.1
	for _, c := range []struct {
		params, slots, ups int
		want               bool
	}{
		{0, 1, 0, true}, {0, 256, 200, true}, {200, 201, 0, true}, {200, 256, 200, true}, {199, 200, 199, true},
		{0, 0, 0, false}, {0, -1, 0, false}, {0, 257, 0, false}, {0, math.MaxInt, 0, false}, {0, math.MinInt, 0, false},
		{1, 1, 0, false}, {1, 0, 0, false}, {200, 200, 0, false}, {200, 199, 0, false}, {200, 257, 0, false},
		{201, 202, 0, false}, {255, 256, 0, false}, {-1, 1, 0, false}, {-1, 0, 0, false}, {-5, 256, 0, false},
		{math.MaxInt, math.MinInt, 0, false}, {math.MaxInt, math.MaxInt, 0, false}, {math.MinInt, 1, 0, false}, {math.MinInt, math.MinInt + 1, 0, false}, {math.MaxInt, 256, 0, false},
		{0, 1, 201, false}, {0, 1, 256, false}, {0, 1, -1, false}, {0, 1, math.MaxInt, false}, {0, 1, math.MinInt, false},
	} {
		for place := range 3 {
			m := sample()
			m.Protos[1].Code = m.Protos[1].Code[:1]
			m.Protos[place] = proto(c.params, c.slots, c.ups, instr(api.OpUnit, 0))
			may(t, m, c.want && (place > 0 || c.params == 0 && c.ups == 0), "sizes")
		}
	}
}

func TestMayOfLongCode(t *testing.T) { // P9.1
	for n, want := range map[int]bool{0: false, 1: true, 2: true, 4097: true, 16383: true, 16384: true, 16385: false, 40000: false} {
		for place := range 3 {
			m := sample()
			m.Protos[place].Code = slices.Repeat([]api.Instr{instr(api.OpUnit, 0)}, n)
			may(t, m, want, strconv.Itoa(n)+" instructions")
		}
	}
	m := sample()
	m.Protos[2].Code = nil
	may(t, m, false, "no instructions")
}

// TestMayOfEachInstruction has, of each operation, how many As there are in the sample's second function.
func TestMayOfEachInstruction(t *testing.T) { // P9.1
	row := sample().Protos[1].Code
	many := map[uint8]int{
		api.OpInt: 3, api.OpText: 4, api.OpUnit: 1, api.OpTrue: 1, api.OpFalse: 1, api.OpLocal: 4, api.OpStore: 4, api.OpUp: 3,
		api.OpClosure: 3, api.OpCall: 201, api.OpTail: 201, api.OpRet: 1, api.OpJump: len(row), api.OpElse: len(row), api.OpPop: 1, api.OpPrim: 32,
		api.OpPerform: 4, api.OpHandle: 4, api.OpResume: 1, api.OpDrop: 1, api.OpAgain: 1, api.OpWind: 1,
	}
	for op := range 256 {
		for _, a := range append(far(), counted(300)...) {
			for _, place := range []int{0, 11, len(row) - 1} {
				m := sample()
				m.Protos[1].Code[place] = instr(uint8(op), a)
				may(t, m, a >= 0 && a < many[uint8(op)], "an instruction")
			}
		}
	}
}

// TestMayOfOtherFunctionsPlaces has slots, captured values and instructions that another function has.
func TestMayOfOtherFunctionsPlaces(t *testing.T) { // P9.1
	for _, c := range []struct {
		in   int
		i    api.Instr
		want bool
	}{
		{0, instr(api.OpLocal, 0), true}, {0, instr(api.OpLocal, 1), false}, {0, instr(api.OpStore, 1), false}, {0, instr(api.OpUp, 0), false}, {0, instr(api.OpJump, 1), true}, {0, instr(api.OpJump, 2), false}, {0, instr(api.OpElse, 2), false},
		{1, instr(api.OpUp, 3), false}, {1, instr(api.OpLocal, 3), true}, {1, instr(api.OpJump, 21), true},
		{2, instr(api.OpUp, 4), true}, {2, instr(api.OpUp, 5), false}, {2, instr(api.OpLocal, 2), false}, {2, instr(api.OpJump, 0), true}, {2, instr(api.OpJump, 1), false}, {2, instr(api.OpElse, 1), false},
		{2, instr(api.OpClosure, 0), true}, {0, instr(api.OpClosure, 2), true}, {2, instr(api.OpClosure, 2), true},
	} {
		m := sample()
		m.Protos[c.in].Code[0] = c.i
		may(t, m, c.want, "function "+strconv.Itoa(c.in))
	}
}

func TestMayOfTables(t *testing.T) { // P9.1
	for _, c := range []struct {
		ops  []int
		want bool
	}{
		{nil, true}, {[]int{}, true}, {[]int{0}, true}, {[]int{3}, true}, {[]int{0, 1, 2}, true}, {[]int{2, 1, 3}, true},
		{[]int{4}, false}, {[]int{-1}, false}, {[]int{math.MaxInt}, false}, {[]int{math.MinInt}, false}, {[]int{0, 1, 4}, false}, {[]int{-1, 0}, false},
		{[]int{0, 0}, false}, {[]int{1, 1}, false}, {[]int{0, 1, 0}, false}, {[]int{1, 2, 2}, false},
		// The first text and the last one are the same.
		{[]int{0, 3}, false}, {[]int{3, 1, 2, 0}, false},
	} {
		for place := range 4 {
			for bits := range 4 {
				m := sample()
				m.Handles[place] = api.Table{Ops: c.ops, Return: bits&1 != 0, Finally: bits&2 != 0}
				may(t, m, c.want, "a table")
			}
		}
	}
	m := sample()
	m.Texts, m.Protos = nil, m.Protos[:1]
	m.Handles = []api.Table{{Ops: []int{0}}}
	may(t, m, false, "a table without texts")
	m.Handles[0].Ops = nil
	may(t, m, true, "a table without operations")
}

func TestMayOfLongTables(t *testing.T) { // P9.1
	for n, want := range map[int]bool{199: true, 200: true, 201: false, 4096: false} {
		m := sample()
		m.Texts = numbered(4096)
		m.Handles[3].Ops = counted(n)
		may(t, m, want, strconv.Itoa(n)+" operations")
	}
	// The last of as many as may be is like the first one.
	m := sample()
	m.Texts = numbered(200)
	m.Handles[0].Ops = counted(200)
	m.Texts[199] = "0"
	may(t, m, false, "the last operation is the first one's text")
}
