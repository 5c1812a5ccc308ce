package verify_test

import (
	"fmt"
	"slices"
	"testing"

	"sacristan/api"
	"sacristan/code"
)

// The answers are found again here in another way: all pairs of an instruction and a depth of it are looked for, until there are no more of them; what is wrong with each is told one by one.

// pair is an instruction that is reached, and a depth that it has then.
type pair struct{ at, depth int }

// modelEffect is what an instruction of a module that may be takes and leaves.
func modelEffect(m api.Module, i api.Instr) (int, int) {
	switch i.Op {
	case api.OpClosure:
		return m.Protos[i.A].Ups, 1
	case api.OpCall:
		return 1 + i.A, 1
	case api.OpTail:
		return 1 + i.A, 0
	case api.OpPrim:
		return int("01111111111111122222222222222222"[i.A] - '0'), 1
	case api.OpHandle:
		table, n := m.Handles[i.A], 1
		for _, has := range []bool{table.Return, table.Finally} {
			if has {
				n++
			}
		}
		return n + len(table.Ops), 1
	}
	takes := "x00000010xxx1011x1x2232"[i.Op] - '0' // x are those above
	leaves := "x11111101xxx0000x1x1110"[i.Op] - '0'
	return int(takes), int(leaves)
}

// nexts are the instructions behind one.
func nexts(i api.Instr, at int) []int {
	switch i.Op {
	case api.OpTail, api.OpRet, api.OpAgain:
		return nil
	case api.OpJump:
		return []int{i.A}
	case api.OpElse:
		return []int{at + 1, i.A}
	}
	return []int{at + 1}
}

// modelDepths are a function's depths, and what is wrong with it.
func modelDepths(m api.Module, p api.Proto) ([]int, []string) {
	var faults []string
	known := map[pair]bool{{0, 0}: true}
	todo := []pair{{0, 0}}
	for len(todo) > 0 {
		from := todo[0]
		todo = todo[1:]
		i := p.Code[from.at]
		takes, leaves := modelEffect(m, i)
		behind := from.depth - takes + leaves
		if from.depth < takes || behind > 256 {
			faults = append(faults, fmt.Sprint("too little, or too much: ", from))
			continue
		}
		for _, at := range nexts(i, from.at) {
			to := pair{at, behind}
			if at >= len(p.Code) {
				faults = append(faults, fmt.Sprint("no next one: ", from))
			} else if !known[to] {
				known[to] = true
				todo = append(todo, to)
			}
		}
	}
	depths := slices.Repeat([]int{-1}, len(p.Code))
	for to := range known {
		if depths[to.at] >= 0 {
			faults = append(faults, fmt.Sprint("several depths: ", to.at))
		}
		depths[to.at] = to.depth
	}
	return depths, faults
}

// checkModule holds both calls against the model, and tells whether the module is right.
func checkModule(t *testing.T, m api.Module) bool {
	t.Helper()
	if !code.May(m) {
		check(t, m, -1, api.ErrCode)
		for place := range len(m.Protos) + 1 {
			depths(t, m, place, nil)
		}
		return false
	}
	told := fmt.Sprintf("%#v", m)
	first, e := 0, api.OK
	for place := len(m.Protos) - 1; place >= 0; place-- {
		want, faults := modelDepths(m, m.Protos[place])
		if len(faults) > 0 {
			first, e, want = place, api.ErrCode, nil
		}
		depths(t, m, place, want)
	}
	check(t, m, first, e)
	if fmt.Sprintf("%#v", m) != told {
		t.Fatalf("%s isn't as it was", brief(m)) // P0.3
	}
	return e == api.OK
}

// TestModelEffects holds the model's own table against the tests' other one.
func TestModelEffects(t *testing.T) { // P11.1
	jumps := []effect{{jump(0), 0, 0}, {els(0), 1, 0}}
	seen := map[uint8]bool{}
	for _, e := range slices.Concat(going(), ending(), jumps) {
		seen[e.i.Op] = true
		if takes, leaves := modelEffect(around(), e.i); takes != e.takes || leaves != e.leaves {
			t.Errorf("the model's effect of %v is %d, %d, want %d, %d", e.i, takes, leaves, e.takes, e.leaves)
		}
	}
	if len(seen) != 22 {
		t.Errorf("%d operations of 22", len(seen))
	}
}

// TestAllShortFunctions has all rows of up to four instructions out of those of each way to go on.
func TestAllShortFunctions(t *testing.T) { // P11.1
	for n := 1; n <= 4; n++ {
		some := []api.Instr{unit(), pop(), instr(api.OpPrim, 15), ret()}
		for a := range n {
			some = append(some, jump(a), els(a))
		}
		count, isRight := 1, 0
		for range n {
			count *= len(some)
		}
		for k := range count {
			row := make([]api.Instr, n)
			for i := range row {
				row[i] = some[k%len(some)]
				k /= len(some)
			}
			m := api.Module{Protos: []api.Proto{proto(0, 1, 0, row...)}}
			if checkModule(t, m) {
				isRight++
			}
		}
		if want := []int{0, 1, 12, 140, 2000}[n]; isRight < want {
			t.Errorf("%d of %d functions of %d instructions are right: too few", isRight, count, n)
		}
	}
}

// grower makes modules out of whatever bytes: nearly all of them may be, and many are right.
type grower struct {
	bytes []byte
	m     api.Module
	row   []api.Instr
}

func (g *grower) below(n int) int {
	if len(g.bytes) == 0 {
		return 0
	}
	c := g.bytes[0]
	g.bytes = g.bytes[1:]
	return int(c) % max(n, 1)
}

func (g *grower) put(op uint8, a int) { g.row = append(g.row, instr(op, a)) }

// module has three functions, and perhaps a change of an instruction.
func (g *grower) module() api.Module {
	g.m = around()
	for place := range 3 {
		g.row = nil
		if g.below(5) > 0 {
			g.tidy()
		} else {
			g.wild(&g.m.Protos[place])
		}
		g.m.Protos[place].Code = g.row
	}
	if g.below(3) == 0 {
		row := g.m.Protos[g.below(3)].Code
		i := &row[g.below(len(row))]
		switch g.below(3) {
		case 0:
			i.Op, i.A = uint8(g.below(25)), g.below(2)
		case 1:
			i.A = g.below(len(row) + 1)
		default:
			*i = els(g.below(len(row)))
		}
	}
	return g.m
}

// wild puts instructions as they come.
func (g *grower) wild(p *api.Proto) {
	n := 1 + g.below(8)
	for range n {
		op := uint8(1 + g.below(22))
		many := []int{
			0, 2, 3, 1, 1, 1, p.Slots, p.Slots, p.Ups, 5, 4,
			4, 1, n, n, 1, 32, 3, 4, 1, 1, 1, 1,
		}[op]
		if many == 0 {
			op, many = api.OpUnit, 1
		}
		g.put(op, g.below(many))
	}
}

// tidy puts what is right: a value, and an end of the function, with something below it.
func (g *grower) tidy() {
	below := g.below(3)
	g.row = append(g.row, units(below)...)
	start := len(g.row)
	g.value(4)
	switch g.below(5) {
	case 0:
		g.put(api.OpPop, 0)
		g.put(api.OpJump, start)
	case 1:
		g.value(3)
		g.put(api.OpAgain, 0)
	case 2:
		g.value(3)
		g.put(api.OpTail, g.below(2+below))
	default:
		g.put(api.OpRet, 0)
	}
	for range g.below(3) {
		g.put(uint8(3+g.below(3)), 0)
	}
}

// value puts instructions that leave a value.
func (g *grower) value(deep int) {
	if deep == 0 {
		g.put([]uint8{api.OpInt, api.OpText, api.OpUnit, api.OpTrue, api.OpFalse, api.OpLocal}[g.below(6)], 0)
		return
	}
	switch g.below(8) {
	case 0:
		g.branches(deep - 1)
	case 1: // till something is false
		start := len(g.row)
		g.value(deep - 1)
		g.put(api.OpPop, 0)
		g.value(deep - 1)
		g.put(api.OpElse, start)
		g.value(0)
	case 2:
		g.value(deep - 1)
		g.put(api.OpStore, 0)
		g.value(deep - 1)
	default:
		g.reckoned(deep - 1)
	}
}

func (g *grower) branches(deep int) {
	g.value(deep)
	test := len(g.row)
	g.put(api.OpElse, 0)
	g.value(deep)
	over := len(g.row)
	if g.below(3) == 0 {
		g.put(api.OpRet, 0)
	} else {
		g.put(api.OpJump, 0)
	}
	g.row[test].A = len(g.row)
	g.value(deep)
	if g.row[over].Op == api.OpJump {
		g.row[over].A = len(g.row)
	}
	g.value(0) // so that there is a next one, if nothing else is behind
	g.put(api.OpPop, 0)
}

// reckoned puts an instruction that leaves a value behind as many values as it takes.
func (g *grower) reckoned(deep int) {
	l := going()
	e := l[g.below(len(l))]
	if e.takes > 6 || e.leaves == 0 || e.i.Op == api.OpLocal || e.i.Op == api.OpUp {
		e = effect{instr(api.OpCall, 1), 2, 1}
	}
	for range e.takes {
		g.value(deep)
	}
	g.row = append(g.row, e.i)
}

func TestManyGrownModules(t *testing.T) { // P11.1
	seed, isRight, may := uint64(1), 0, 0
	for range 3000 {
		bytes := make([]byte, 300)
		for i := range bytes {
			seed = seed*6364136223846793005 + 1442695040888963407
			bytes[i] = byte(seed >> 56)
		}
		m := (&grower{bytes: bytes}).module()
		if code.May(m) {
			may++
		}
		if checkModule(t, m) {
			isRight++
		}
	}
	if may < 2000 || may == 3000 || isRight < 500 || may-isRight < 500 {
		t.Errorf("of 3000 modules %d may be, and %d are right: too few of a sort", may, isRight)
	}
}

func FuzzGrown(f *testing.F) { // P11.1
	f.Add([]byte("\x01\x00\x02\x00\x00\x01\x01\x00\x03"))
	f.Add([]byte("\x00\x04\x02\x00\x0b\x00\x01\x00\x0d\x02\x0e\x01"))
	f.Fuzz(func(t *testing.T, bytes []byte) { checkModule(t, (&grower{bytes: bytes}).module()) })
}
