package pack_test

import (
	"math"
	"slices"
	"testing"

	"sacristan/api"
)

// grower makes modules out of whatever bytes: nearly all of them as they may be.
type grower struct{ bytes []byte }

func (g *grower) next() int {
	if len(g.bytes) == 0 {
		return 0
	}
	c := g.bytes[0]
	g.bytes = g.bytes[1:]
	return int(c)
}

// below is a number from 0 to n - 1.
func (g *grower) below(n int) int { return (g.next()<<8 | g.next()) % max(n, 1) }

func (g *grower) module() api.Module {
	var m api.Module
	for range g.next() % 5 {
		edge := []int64{0, 1, 63, 64, 8191, 8192, 1 << 31, 1 << 62, math.MaxInt64, math.MinInt64}[g.next()%10]
		m.Ints = append(m.Ints, edge-int64(g.next()))
	}
	for i := range g.next() % 5 {
		text := slices.Repeat([]byte{byte('A' + i)}, []int{0, 1, 2, 3, 126, 127, 128, 129}[g.next()%8])
		m.Texts = append(m.Texts, string(text)+string([]byte{byte(i)}))
	}
	for range g.next() % 4 {
		m.Handles = append(m.Handles, g.table(len(m.Texts)))
	}
	m.Protos = make([]api.Proto, 1+g.next()%3)
	for i := range m.Protos {
		p := &m.Protos[i]
		if i > 0 {
			p.Params, p.Ups = g.below(201), g.below(201)
		}
		p.Slots = p.Params + 1 + g.below(256-p.Params)
	}
	for i := range m.Protos {
		g.code(m, i)
	}
	return m
}

func (g *grower) table(texts int) api.Table {
	t := api.Table{Return: g.next()%2 > 0, Finally: g.next()%2 > 0}
	for range g.next() % 4 {
		if op := g.below(texts); texts > 0 && !slices.Contains(t.Ops, op) {
			t.Ops = append(t.Ops, op)
		}
	}
	return t
}

// code gives a function its instructions, of operations that there is an A for, but for a few.
func (g *grower) code(m api.Module, place int) {
	p := &m.Protos[place]
	p.Code = make([]api.Instr, 1+g.below([]int{5, 5, 5, 140}[g.next()%4]))
	for i := range p.Code {
		op := uint8(1 + g.next()%22)
		for choices(m, *p, op) == 0 {
			op = 1 + op%22
		}
		p.Code[i] = instr(op, g.below(choices(m, *p, op)))
	}
	if g.next() > 250 {
		p.Code[0].A++
	}
}

// choices are how many numbers from 0 on the A of an operation may be.
func choices(m api.Module, p api.Proto, op uint8) int {
	return []int{
		0, len(m.Ints), len(m.Texts), 1, 1, 1, p.Slots, p.Slots, p.Ups, len(m.Protos), 201,
		201, 1, len(p.Code), len(p.Code), 1, 32, len(m.Texts), len(m.Handles), 1, 1, 1, 1,
	}[op]
}

// change spoils bytes at a place or two.
func (g *grower) change(b []byte) []byte {
	b = slices.Clone(b)
	for range 1 + g.next()%2 {
		place := g.below(len(b))
		switch g.next() % 6 {
		case 0:
			b = slices.Delete(b, place, place+1)
		case 1:
			b = slices.Insert(b, place, byte(g.next()))
		case 2:
			b[place] ^= 0x80
		case 3:
			b = slices.Insert(b, place, b[place]|0x80)
		default:
			b[place] = byte(g.next() % 32)
		}
	}
	return b
}

// checkGrown is whether the module may be, and of how many changed bytes there is one.
func checkGrown(t *testing.T, bytes []byte) (bool, int) {
	t.Helper()
	g := &grower{bytes}
	m := g.module()
	ok := checkModule(t, m)
	b := joined(parts(m))
	if check(t, b) != ok {
		t.Fatalf("Get of the bytes of %s: %v", brief(m), !ok)
	}
	right := 0
	for range 8 {
		if check(t, g.change(b)) {
			right++
		}
	}
	return ok, right
}

func TestManyGrownModules(t *testing.T) { // P10.1, P10.2
	seed, right, changed := uint64(1), 0, 0
	for range 4000 {
		bytes := make([]byte, 600)
		for i := range bytes {
			seed = seed*6364136223846793005 + 1442695040888963407
			bytes[i] = byte(seed >> 56)
		}
		ok, n := checkGrown(t, bytes)
		if ok {
			right++
		}
		changed += n
	}
	if right < 3000 || right == 4000 || changed < 2000 || changed > 30000 {
		t.Errorf("%d of 4000 modules may be, %d of 32000 changed bytes are one's: too few of a sort", right, changed)
	}
}

func FuzzGrown(f *testing.F) { // P10.1, P10.2
	f.Add([]byte("\x02\x01\x05\x02\x01\x02\x01\x01\x01\x02\x00\x01\x02\x00\x00\x00\x05\x09"))
	f.Fuzz(func(t *testing.T, bytes []byte) { checkGrown(t, bytes) })
}

func FuzzBytes(f *testing.F) { // P10.1, P10.2
	f.Add(joined(parts(least())))
	f.Add(joined(parts(sample())))
	f.Fuzz(func(t *testing.T, bytes []byte) { check(t, bytes) })
}
