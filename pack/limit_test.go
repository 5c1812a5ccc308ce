package pack_test

import (
	"bytes"
	"math"
	"slices"
	"strconv"
	"strings"
	"testing"

	"sacristan/api"
	"sacristan/code"
	"sacristan/pack"
)

// numbered are so many texts, all unlike.
func numbered(n int) []string {
	l := make([]string, n)
	for i := range l {
		l[i] = strconv.Itoa(i)
	}
	return l
}

// counted are the numbers from 0 on.
func counted(n int) []int {
	l := make([]int, n)
	for i := range l {
		l[i] = i
	}
	return l
}

// TestLimits has, of each limit of a module, what may just be, and what is one more or less.
func TestLimits(t *testing.T) { // P10.1, P10.2
	first := func(p api.Proto) func(m *api.Module) { return func(m *api.Module) { m.Protos[0] = p } }
	last := func(p api.Proto) func(m *api.Module) { return func(m *api.Module) { m.Protos[2] = p } }
	row := func(n int) func(m *api.Module) {
		return func(m *api.Module) { m.Protos[2].Code = slices.Repeat([]api.Instr{instr(api.OpUnit, 0)}, n) }
	}
	i := func(op uint8, a int) func(m *api.Module) {
		return func(m *api.Module) { m.Protos[1].Code[3] = instr(op, a) }
	}
	unit := instr(api.OpUnit, 0)
	for _, c := range []struct {
		what string
		want bool
		make func(m *api.Module)
	}{
		{"numbers", true, func(m *api.Module) { m.Ints = make([]int64, 4096) }},
		{"numbers", false, func(m *api.Module) { m.Ints = make([]int64, 4097) }},
		{"texts", true, func(m *api.Module) { m.Texts = numbered(4096) }},
		{"texts", false, func(m *api.Module) { m.Texts = numbered(4097) }},
		{"functions", true, func(m *api.Module) { m.Protos = append(m.Protos, slices.Repeat(m.Protos[:1], 4093)...) }},
		{"functions", false, func(m *api.Module) { m.Protos = append(m.Protos, slices.Repeat(m.Protos[:1], 4094)...) }},
		{"no functions", false, func(m *api.Module) { m.Protos = nil }},
		{"tables", true, func(m *api.Module) { m.Handles = slices.Repeat(m.Handles[:2], 2048) }},
		{"tables", false, func(m *api.Module) { m.Handles = append(slices.Repeat(m.Handles[:2], 2048), api.Table{}) }},
		{"a text", true, func(m *api.Module) { m.Texts[3] = strings.Repeat("\xff", 65536) }},
		{"a text", false, func(m *api.Module) { m.Texts[3] = strings.Repeat("\xff", 65537) }},
		{"the first function", true, first(proto(0, 256, 0, unit))},
		{"the first function", false, first(proto(1, 256, 0, unit))},
		{"the first function", false, first(proto(0, 256, 1, unit))},
		{"Params", true, last(proto(200, 201, 0, unit))},
		{"Params", false, last(proto(201, 202, 0, unit))},
		{"Ups", true, last(proto(0, 1, 200, unit))},
		{"Ups", false, last(proto(0, 1, 201, unit))},
		{"Slots", true, last(proto(7, 8, 0, unit))},
		{"Slots", false, last(proto(7, 7, 0, unit))},
		{"Slots", true, last(proto(7, 256, 0, unit))},
		{"Slots", false, last(proto(7, 257, 0, unit))},
		{"instructions", false, row(0)}, {"instructions", true, row(1)}, {"instructions", true, row(127)}, {"instructions", true, row(128)},
		{"instructions", true, row(16383)}, {"instructions", true, row(16384)}, {"instructions", false, row(16385)},
		{"OpInt", true, i(api.OpInt, 2)}, {"OpInt", false, i(api.OpInt, 3)},
		{"OpText", true, i(api.OpText, 3)}, {"OpText", false, i(api.OpText, 4)},
		{"OpUnit", false, i(api.OpUnit, 1)}, {"OpTrue", false, i(api.OpTrue, 1)}, {"OpFalse", false, i(api.OpFalse, 1)},
		{"OpLocal", true, i(api.OpLocal, 3)}, {"OpLocal", false, i(api.OpLocal, 4)},
		{"OpStore", true, i(api.OpStore, 3)}, {"OpStore", false, i(api.OpStore, 4)},
		{"OpUp", true, i(api.OpUp, 2)}, {"OpUp", false, i(api.OpUp, 3)},
		{"OpClosure", true, i(api.OpClosure, 2)}, {"OpClosure", false, i(api.OpClosure, 3)},
		{"OpCall", true, i(api.OpCall, 200)}, {"OpCall", false, i(api.OpCall, 201)},
		{"OpTail", true, i(api.OpTail, 200)}, {"OpTail", false, i(api.OpTail, 201)},
		{"OpRet", false, i(api.OpRet, 1)}, {"OpPop", false, i(api.OpPop, 1)},
		{"OpJump", true, i(api.OpJump, 21)}, {"OpJump", false, i(api.OpJump, 22)},
		{"OpElse", true, i(api.OpElse, 21)}, {"OpElse", false, i(api.OpElse, 22)},
		{"OpPrim", true, i(api.OpPrim, 31)}, {"OpPrim", false, i(api.OpPrim, 32)},
		{"OpPerform", true, i(api.OpPerform, 3)}, {"OpPerform", false, i(api.OpPerform, 4)},
		{"OpHandle", true, i(api.OpHandle, 3)}, {"OpHandle", false, i(api.OpHandle, 4)},
		{"OpResume", false, i(api.OpResume, 1)}, {"OpDrop", false, i(api.OpDrop, 1)}, {"OpAgain", false, i(api.OpAgain, 1)}, {"OpWind", false, i(api.OpWind, 1)},
		{"no operation", false, i(0, 0)}, {"no operation", false, i(23, 0)}, {"no operation", false, i(255, 0)},
		{"operations", true, func(m *api.Module) { m.Texts, m.Handles[1].Ops = numbered(300), counted(200) }},
		{"operations", false, func(m *api.Module) { m.Texts, m.Handles[1].Ops = numbered(300), counted(201) }},
		{"an operation", false, func(m *api.Module) { m.Handles[1].Ops = []int{4} }},
		{"an operation", false, func(m *api.Module) { m.Handles[1].Ops = []int{2, 2} }},
		{"an operation", false, func(m *api.Module) { m.Texts[2] = "Ask"; m.Handles[1].Ops = []int{2, 0} }},
		{"an operation", true, func(m *api.Module) { m.Texts[2] = "Ask2"; m.Handles[1].Ops = []int{2, 0} }},
	} {
		m := sample()
		c.make(&m)
		if c.want != checkModule(t, m) {
			t.Fatalf("%s: not %v: %s", c.what, c.want, brief(m))
		}
		if got := check(t, joined(parts(m))); got != c.want {
			t.Fatalf("%s: Get: %v: %s", c.what, got, brief(m))
		}
	}
}

// Numbers below 0, that no bytes tell, may not be.
func TestBelowNone(t *testing.T) { // P10.1
	for _, n := range []int{-1, -2, math.MinInt, math.MinInt + 1} {
		for i, change := range []func(m *api.Module){
			func(m *api.Module) { m.Protos[0].Params = n }, func(m *api.Module) { m.Protos[2].Params = n },
			func(m *api.Module) { m.Protos[0].Ups = n }, func(m *api.Module) { m.Protos[2].Ups = n },
			func(m *api.Module) { m.Protos[0].Slots = n }, func(m *api.Module) { m.Protos[2].Slots = n },
			func(m *api.Module) { m.Protos[1].Code[2].A = n }, func(m *api.Module) { m.Protos[1].Code[0].A = n }, func(m *api.Module) { m.Protos[1].Code[5].A = n },
			func(m *api.Module) { m.Handles[1].Ops[0] = n }, func(m *api.Module) { m.Handles[2].Ops[2] = n },
		} {
			m := sample()
			change(&m)
			refusePut(t, m, strconv.Itoa(i))
		}
	}
}

// TestGreatest has as much of all as goes into what a module has of bytes.
func TestGreatest(t *testing.T) { // P10.1, P10.2
	m := api.Module{Ints: slices.Repeat([]int64{math.MinInt64}, 4096), Texts: numbered(4096), Handles: make([]api.Table, 4096)}
	m.Texts[4095] = strings.Repeat("x", api.MaxText)
	for i := range 300 {
		m.Handles[i*13] = api.Table{Ops: counted(200), Return: i%2 > 0, Finally: i%3 > 0}
	}
	m.Handles[4095].Ops = []int{4095}
	m.Protos = slices.Repeat([]api.Proto{proto(200, 256, 200, instr(api.OpClosure, 4095))}, 4096)
	m.Protos[0] = proto(0, 256, 0, instr(api.OpHandle, 4095))
	m.Protos[4095].Code = slices.Repeat([]api.Instr{instr(api.OpInt, 4095), instr(api.OpText, 4095), instr(api.OpLocal, 255), instr(api.OpJump, 16383)}, 4096)
	if !checkModule(t, m) {
		t.Error("it may not be")
	}
}

// sized is a module of so many bytes, some 2^20.
func sized(n int) api.Module {
	m := least()
	m.Texts = slices.Repeat([]string{strings.Repeat("a", api.MaxText)}, 15)
	m.Texts = append(m.Texts, strings.Repeat("b", api.MaxText-1<<14))
	m.Texts[15] += strings.Repeat("c", n-len(joined(parts(m)))) // its number has three bytes, anyway
	return m
}

func TestMaxPack(t *testing.T) { // P10.1, P10.2
	for _, n := range []int{1<<20 - 2, 1<<20 - 1, 1 << 20} {
		m := sized(n)
		b := joined(parts(m))
		if len(b) != n {
			t.Fatalf("%d bytes, want %d", len(b), n)
		}
		put(t, m, b)
		if !check(t, b) {
			t.Errorf("%d bytes: no module", n)
		}
	}
}

// A module that may be has its bytes, though there are more of them than are got.
func TestMoreThanMaxPack(t *testing.T) { // P10.1
	large := least()
	large.Texts = slices.Repeat([]string{strings.Repeat("x", api.MaxText)}, 40)
	for _, m := range []api.Module{sized(1<<20 + 1), sized(1<<20 + 2), sized(1<<20 + 50), large} {
		want := joined(parts(m))
		if b, e := pack.Put(m); e != api.OK || !bytes.Equal(b, want) || len(b) <= api.MaxPack || !code.May(m) {
			t.Errorf("Put of a module of %d bytes: %d bytes, %v", len(want), len(b), e)
		}
		refuseGet(t, want, "more than there may be")
	}
	refuseGet(t, append(joined(parts(least())), make([]byte, api.MaxPack)...), "zeros behind")
	refuseGet(t, make([]byte, 1<<22), "zeros")
}
