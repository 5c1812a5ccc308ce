package code_test

import (
	"fmt"
	"slices"
	"strings"
	"testing"

	"sacristan/api"
	"sacristan/code"
)

// copied is a module in memory of its own.
func copied(m api.Module) api.Module {
	m.Ints, m.Texts, m.Protos, m.Handles = slices.Clone(m.Ints), slices.Clone(m.Texts), slices.Clone(m.Protos), slices.Clone(m.Handles)
	for i := range m.Protos {
		m.Protos[i].Code = slices.Clone(m.Protos[i].Code)
	}
	for i := range m.Handles {
		m.Handles[i].Ops = slices.Clone(m.Handles[i].Ops)
	}
	return m
}

// spoiling are ways to make another list of a list: by each thing in it, one less, and one more at either end.
func spoiling[T any](l []T, change func(x *T)) [][]T {
	var none T
	all := [][]T{append(slices.Clone(l), none), append([]T{none}, l...)}
	for i := range l {
		other := slices.Clone(l)
		change(&other[i])
		all = append(all, other, slices.Delete(slices.Clone(l), i, i+1))
	}
	return all
}

// spoil are modules that aren't the same as a module, by one thing each.
func spoil(m api.Module) []api.Module {
	var all []api.Module
	add := func(change func(m *api.Module)) {
		other := copied(m)
		change(&other)
		all = append(all, other)
	}
	for _, l := range spoiling(m.Ints, func(n *int64) { *n = ^*n }) {
		add(func(m *api.Module) { m.Ints = l })
	}
	for _, l := range spoiling(m.Texts, func(s *string) { *s += "\x00" }) {
		add(func(m *api.Module) { m.Texts = l })
	}
	for _, change := range []func(p *api.Proto){
		func(p *api.Proto) { p.Params++ }, func(p *api.Proto) { p.Slots-- }, func(p *api.Proto) { p.Ups++ },
	} {
		for _, l := range spoiling(m.Protos, change) {
			add(func(m *api.Module) { m.Protos = l })
		}
	}
	for _, change := range []func(t *api.Table){
		func(t *api.Table) { t.Return = !t.Return }, func(t *api.Table) { t.Finally = !t.Finally },
		func(t *api.Table) { t.Return, t.Finally = !t.Return, !t.Finally },
	} {
		for _, l := range spoiling(m.Handles, change) {
			add(func(m *api.Module) { m.Handles = l })
		}
	}
	for i, p := range m.Protos {
		for _, l := range append(spoiling(p.Code, func(i *api.Instr) { i.Op++ }), spoiling(p.Code, func(i *api.Instr) { i.A-- })...) {
			add(func(m *api.Module) { m.Protos[i].Code = l })
		}
	}
	for i, table := range m.Handles {
		for _, l := range spoiling(table.Ops, func(op *int) { *op++ }) {
			add(func(m *api.Module) { m.Handles[i].Ops = l })
		}
	}
	return all
}

func same(t *testing.T, a, b api.Module, want bool) {
	t.Helper()
	if got, back := code.Same(a, b), code.Same(b, a); got != want || back != want {
		t.Fatalf("Same(%s, %s) = %v, and %v the other way, want %v", brief(a), brief(b), got, back, want)
	}
}

// modules are some that may be, and some that may not.
func modules() []api.Module {
	return []api.Module{
		{}, sample(),
		{Ints: []int64{0}}, {Texts: []string{""}}, {Protos: []api.Proto{{}}}, {Handles: []api.Table{{}}},
		{Ints: []int64{1, 2}}, {Ints: []int64{2, 1}}, {Texts: []string{"ab"}}, {Texts: []string{"a", "b"}}, {Texts: []string{"b", "a"}},
		{Protos: []api.Proto{{Params: -1, Slots: 1 << 40, Ups: -5, Code: []api.Instr{{Op: 255, A: -1}, {Op: 0, A: 7}}}}},
		{Protos: []api.Proto{{Code: []api.Instr{{Op: 1}}}, {}}}, {Protos: []api.Proto{{}, {Code: []api.Instr{{Op: 1}}}}},
		{Handles: []api.Table{{Ops: []int{0, 0, -1}}, {Return: true}}}, {Handles: []api.Table{{Ops: []int{0, 0, -1}, Return: true}, {}}}, {Handles: []api.Table{{Ops: []int{-1, 0, 0}}, {Return: true}}},
	}
}

func TestSame(t *testing.T) { // P9.1
	for i, m := range modules() {
		same(t, m, m, true)
		same(t, m, copied(m), true)
		for _, other := range spoil(m) {
			same(t, m, other, false)
		}
		for j, other := range modules() {
			same(t, m, other, i == j)
		}
	}
}

// hollow is a module with empty lists where there are none.
func hollow(m api.Module) api.Module {
	m = copied(m)
	m.Ints, m.Texts, m.Protos, m.Handles = append([]int64{}, m.Ints...), append([]string{}, m.Texts...), append([]api.Proto{}, m.Protos...), append([]api.Table{}, m.Handles...)
	for i, p := range m.Protos {
		m.Protos[i].Code = append([]api.Instr{}, p.Code...)
	}
	for i, table := range m.Handles {
		m.Handles[i].Ops = append([]int{}, table.Ops...)
	}
	return m
}

func TestEmptyListsAreNone(t *testing.T) { // P0.4
	for _, m := range append(modules(), api.Module{Protos: []api.Proto{proto(0, 1, 0, instr(api.OpUnit, 0))}}, api.Module{Protos: []api.Proto{proto(0, 1, 0)}}) {
		same(t, m, hollow(m), true)
		if got, want := code.May(hollow(m)), code.May(m); got != want {
			t.Errorf("May(%s) = %v with empty lists, want %v", brief(m), got, want)
		}
		for op := range uint8(24) {
			takes, leaves, ok := code.Effect(m, instr(op, 0))
			effect(t, hollow(m), instr(op, 0), takes, leaves, ok)
		}
	}
}

// What is handed in stays as it is, the room behind its lists' ends, too.
func TestNothingIsChanged(t *testing.T) { // P0.3
	whole := sample()
	told := fmt.Sprintf("%#v", whole)
	m := whole
	m.Ints, m.Texts, m.Protos, m.Handles = m.Ints[:1], m.Texts[:2], m.Protos[:1], m.Handles[:1]
	m.Protos = slices.Clone(m.Protos)
	m.Protos[0].Code = whole.Protos[1].Code[:3]
	for _, n := range []api.Module{m, whole} {
		if !code.May(n) || !code.Same(n, n) {
			t.Fatalf("%s may not be, or isn't the same", brief(n))
		}
		for op := range 256 {
			code.Effect(n, instr(uint8(op), 1))
		}
	}
	if got := fmt.Sprintf("%#v", whole); got != told {
		t.Errorf("%s was changed to %s", told, got)
	}
}

// Nothing is kept of a module: what is written into it counts at the next call.
func TestNothingIsKept(t *testing.T) { // P0.3, P0.5
	m, n := sample(), sample()
	same(t, m, n, true)
	may(t, m, true, "the sample")
	m.Texts[2] = "Ask"
	same(t, m, n, false)
	may(t, m, false, "two operations of one text")
	m.Texts[2] = strings.Clone("Tell")
	same(t, m, n, true)
	may(t, m, true, "the sample again")
	m.Protos[2].Ups = 4
	effect(t, m, instr(api.OpClosure, 2), 4, 1, true)
}
