package code_test

import (
	"fmt"
	"slices"
	"strconv"
	"strings"
	"testing"

	"sacristan/api"
	"sacristan/code"
	"sacristan/tree"
)

// The answers are found again here in another way: the chapter's table stands as rows of text, which A may be is a list of numbers, and what is taken and left is a row of things that are counted.

// row is a row of the chapter's table: an operation, what its A is, what it takes, and what it leaves.
func row(op uint8) []string {
	rows := []string{"",
		"OpInt number - it", "OpText text - it", "OpUnit 0 - unit", "OpTrue 0 - true", "OpFalse 0 - false",
		"OpLocal slot - it", "OpStore slot value -", "OpUp captured - it", "OpClosure function captured.. fun",
		"OpCall arguments fun,arguments.. it", "OpTail arguments fun,arguments.. -", "OpRet 0 value -",
		"OpJump instruction - -", "OpElse instruction bool -", "OpPop 0 value -",
		"OpPrim word parts.. it", "OpPerform text value it", "OpHandle table handled,clauses.. it",
		"OpResume 0 cont,value it", "OpDrop 0 cont,value it", "OpWind 0 fun,fun,fun it", "OpAgain 0 cont,value -",
	}
	if int(op) >= len(rows) || op == 0 {
		return nil
	}
	return strings.Fields(rows[op])
}

// choices are how many numbers from 0 on the A of an operation may be, in a function of a module.
func choices(m api.Module, p api.Proto, what string) int {
	return map[string]int{
		"0": 1, "number": len(m.Ints), "text": len(m.Texts), "slot": p.Slots, "captured": p.Ups, "function": len(m.Protos),
		"arguments": 201, "instruction": len(p.Code), "word": 32, "table": len(m.Handles),
	}[what]
}

// things are what a row of words stands for, one behind the other.
func things(m api.Module, a int, words string) []string {
	var l []string
	for _, word := range strings.Split(words, ",") {
		switch word {
		case "-":
		case "captured..":
			l = slices.Concat(l, slices.Repeat([]string{"value"}, m.Protos[a].Ups))
		case "arguments..":
			l = slices.Concat(l, slices.Repeat([]string{"value"}, a))
		case "parts..":
			l = slices.Concat(l, slices.Repeat([]string{"value"}, tree.Takes(code.Words()[a])))
		case "clauses..":
			table := fmt.Sprint(m.Handles[a])
			l = slices.Concat(l, slices.Repeat([]string{"true"}, strings.Count(table, "true")))
			l = slices.Concat(l, slices.Repeat([]string{"on"}, len(m.Handles[a].Ops)))
		default:
			l = append(l, word)
		}
	}
	return l
}

// modelEffect is what an instruction takes and leaves.
func modelEffect(m api.Module, i api.Instr) (int, int, bool) {
	r := row(i.Op)
	if r == nil {
		return 0, 0, false
	}
	if slices.Contains([]string{"number", "text", "function", "word", "table", "arguments"}, r[1]) {
		if i.A < 0 || i.A >= choices(m, api.Proto{}, r[1]) || r[1] == "function" && m.Protos[i.A].Ups < 0 {
			return 0, 0, false
		}
	}
	return len(things(m, i.A, r[2])), len(things(m, i.A, r[3])), true
}

// faults are what is wrong with a module, told one by one.
func faults(m api.Module) []string {
	var l []string
	fault := func(wrong bool, what string) {
		if wrong {
			l = append(l, what)
		}
	}
	for _, n := range []int{len(m.Ints), len(m.Texts), len(m.Protos), len(m.Handles)} {
		fault(n > 4096, "a list is too long")
	}
	for _, s := range m.Texts {
		fault(len(s) > 65536, "a text is too long")
	}
	for _, table := range m.Handles {
		fault(len(table.Ops) > 200, "a table is too long")
		for j, op := range table.Ops {
			fault(op < 0 || op >= len(m.Texts), "an operation is no place")
			for _, other := range table.Ops[:j] {
				fault(text(m, op) == text(m, other), "two operations are the same")
			}
		}
	}
	fault(len(m.Protos) == 0, "there is no function")
	for place, p := range m.Protos {
		fault(place == 0 && p.Params != 0, "the first function has parameters")
		fault(place == 0 && p.Ups != 0, "the first function captures something")
		fault(p.Params < 0 || p.Params > 200, "Params")
		fault(p.Ups < 0 || p.Ups > 200, "Ups")
		fault(p.Slots < p.Params+1 || p.Slots > 256, "Slots")
		fault(len(p.Code) < 1, "there is no instruction")
		fault(len(p.Code) > 16384, "there are too many instructions")
		for _, i := range p.Code {
			r := row(i.Op)
			fault(r == nil, "there is no such operation")
			fault(r != nil && (i.A < 0 || i.A >= choices(m, p, r[1])), "A is no "+strings.Join(r, " "))
		}
	}
	return l
}

// text is an operation's text, or what no text is, where there is none.
func text(m api.Module, op int) string {
	if op < 0 || op >= len(m.Texts) {
		return "none: " + strconv.Itoa(op)
	}
	return "text: " + m.Texts[op]
}

// check holds all that is told of a module against the model.
func check(t *testing.T, m api.Module) bool {
	t.Helper()
	told := fmt.Sprintf("%#v", m)
	l := faults(m)
	if got := code.May(m); got != (len(l) == 0) {
		t.Fatalf("May(%s) = %v, but its faults are %q", brief(m), got, l)
	}
	for op := range uint8(25) {
		for a := -2; a < 8; a++ {
			checkEffect(t, m, instr(op, a))
		}
	}
	for _, p := range m.Protos {
		for _, i := range p.Code {
			checkEffect(t, m, i)
		}
	}
	if !code.Same(m, copied(m)) {
		t.Fatalf("%s isn't the same as its copy", brief(m))
	}
	if fmt.Sprintf("%#v", m) != told {
		t.Fatalf("%s isn't as it was", brief(m)) // P0.3
	}
	return len(l) == 0
}

func checkEffect(t *testing.T, m api.Module, i api.Instr) {
	t.Helper()
	takes, leaves, ok := modelEffect(m, i)
	effect(t, m, i, takes, leaves, ok)
	if r := row(i.Op); ok && (leaves == 0) != slices.Contains([]string{"OpStore", "OpElse", "OpPop", "OpTail", "OpRet", "OpJump", "OpAgain"}, r[0]) {
		t.Fatalf("Effect(%v) leaves %d", i, leaves)
	}
}

// TestEveryInstruction tries all operations with all As near, in a module that may be and in one without anything.
func TestEveryInstruction(t *testing.T) { // P9.1
	for _, m := range append(modules(), sample()) {
		for op := range 256 {
			for a := -3; a < 260; a++ {
				checkEffect(t, m, instr(uint8(op), a))
			}
		}
	}
}

// TestEachSpoiltSample holds modules that differ from the sample by one thing each.
func TestEachSpoiltSample(t *testing.T) { // P9.1
	right := 0
	for _, m := range append(spoil(sample()), modules()...) {
		if check(t, m) {
			right++
		}
	}
	if right < 20 {
		t.Errorf("%d of the modules may be: too few", right)
	}
}

// grower makes modules out of whatever bytes: most of them as they may be, some with something wrong.
type grower struct{ bytes []byte }

func (g *grower) next() int {
	if len(g.bytes) == 0 {
		return 0
	}
	c := g.bytes[0]
	g.bytes = g.bytes[1:]
	return int(c)
}

// below is a number from 0 to n - 1, seldom another one.
func (g *grower) below(n int) int {
	c := g.next()
	if c >= 254 {
		return []int{-1, n}[c-254]
	}
	return c % max(n, 1)
}

func (g *grower) module() api.Module {
	var m api.Module
	for range g.next() % 4 {
		m.Ints = append(m.Ints, int64(g.next())-128)
	}
	for range g.next() % 4 {
		m.Texts = append(m.Texts, []string{"", "A", "B", "C", "D", "E"}[g.next()%6])
	}
	for range g.next() % 3 {
		m.Handles = append(m.Handles, g.table(len(m.Texts)))
	}
	m.Protos = make([]api.Proto, 1+g.next()%3)
	for i := range m.Protos {
		m.Protos[i] = g.sizes(i == 0)
	}
	for i := range m.Protos {
		g.code(m, i)
	}
	return m
}

func (g *grower) table(texts int) api.Table {
	t := api.Table{Return: g.next()%2 > 0, Finally: g.next()%2 > 0}
	for range min(g.next()%3, texts) {
		t.Ops = append(t.Ops, g.below(texts))
	}
	return t
}

func (g *grower) sizes(first bool) api.Proto {
	p := api.Proto{Params: g.below(4), Ups: g.below(4)}
	if first && g.next() < 250 {
		p = api.Proto{}
	}
	p.Slots = p.Params + 1 + g.below(3)
	return p
}

// code gives a function its instructions, of operations that there is an A for.
func (g *grower) code(m api.Module, place int) {
	p := &m.Protos[place]
	p.Code = make([]api.Instr, g.below(6)+1)
	for i := range p.Code {
		op := uint8(1 + g.next()%22)
		for choices(m, *p, row(op)[1]) == 0 {
			op = 1 + op%22
		}
		if g.next() >= 254 {
			op += 22
		}
		p.Code[i].Op = op
		if r := row(op); r != nil {
			p.Code[i].A = g.below(choices(m, *p, r[1]))
		}
	}
}

func checkGrown(t *testing.T, bytes []byte) bool {
	t.Helper()
	m := (&grower{bytes}).module()
	if again := (&grower{bytes}).module(); !code.Same(m, again) {
		t.Fatalf("%s isn't the same again", brief(m))
	}
	return check(t, m)
}

func TestManyGrownModules(t *testing.T) { // P9.1
	seed, right := uint64(1), 0
	for range 4000 {
		bytes := make([]byte, 90)
		for i := range bytes {
			seed = seed*6364136223846793005 + 1442695040888963407
			bytes[i] = byte(seed >> 56)
		}
		if checkGrown(t, bytes) {
			right++
		}
	}
	if right < 800 || right > 3600 {
		t.Errorf("%d of 4000 modules may be: too few of a sort", right)
	}
}

func FuzzGrown(f *testing.F) { // P9.1
	f.Add([]byte("\x01\x05\x02\x01\x02\x01\x01\x01\x02\x00\x01\x02\x00\x00\x00"))
	f.Add([]byte("\x00\x00\x00\x02\x03\xfe\x01\xff\x02\x05"))
	f.Fuzz(func(t *testing.T, bytes []byte) { checkGrown(t, bytes) })
}
