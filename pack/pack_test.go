package pack_test

import (
	"bytes"
	"fmt"
	"slices"
	"strings"
	"testing"

	"sacristan/api"
	"sacristan/code"
	"sacristan/pack"
)

// instr is an instruction.
func instr(op uint8, a int) api.Instr { return api.Instr{Op: op, A: a} }

// proto is a function with a row of instructions.
func proto(params, slots, ups int, row ...api.Instr) api.Proto {
	return api.Proto{Params: params, Slots: slots, Ups: ups, Code: row}
}

// least is the least module that may be.
func least() api.Module {
	return api.Module{Protos: []api.Proto{proto(0, 1, 0, instr(api.OpUnit, 0))}}
}

// sample is a module that may be, with an instruction of each operation, and new memory each time.
func sample() api.Module {
	var row []api.Instr
	for op := api.OpInt; op <= api.OpAgain; op++ {
		row = append(row, instr(op, 0))
	}
	return api.Module{
		Ints:  []int64{5, -7, 200},
		Texts: []string{"Ask", "", "Tell", "\x00\xff"},
		Protos: []api.Proto{
			proto(0, 1, 0, instr(api.OpUnit, 0), instr(api.OpRet, 0)),
			proto(2, 4, 3, row...),
			proto(130, 256, 200, instr(api.OpUp, 199), instr(api.OpCall, 128), instr(api.OpPrim, 31)),
		},
		Handles: []api.Table{{}, {Ops: []int{0}, Return: true}, {Ops: []int{2, 1, 3}, Finally: true}, {Ops: []int{3, 0}, Return: true, Finally: true}},
	}
}

// brief keeps a failure's line short, whatever it tells.
func brief(x any) string { return fmt.Sprintf("%.300s", fmt.Sprintf("%#v", x)) }

// put asks that a module has these bytes, and that these have this module.
func put(t *testing.T, m api.Module, want []byte) {
	t.Helper()
	for range 2 { // P0.5: to ask leaves nothing behind
		b, e := pack.Put(m)
		if e != api.OK || !bytes.Equal(b, want) {
			t.Fatalf("Put(%s) = %s, %v, want %s", brief(m), brief(b), e, brief(want))
		}
		n, e := pack.Get(want)
		if e != api.OK || !code.Same(n, m) {
			t.Fatalf("Get(%s) = %s, %v, want %s", brief(want), brief(n), e, brief(m))
		}
	}
}

// refusePut asks that a module has no bytes.
func refusePut(t *testing.T, m api.Module, what string) {
	t.Helper()
	if b, e := pack.Put(m); e != api.ErrCode || len(b) > 0 {
		t.Fatalf("%s: Put(%s) = %s, %v, want ErrCode", what, brief(m), brief(b), e)
	}
}

// refuseGet asks that bytes are no module's.
func refuseGet(t *testing.T, b []byte, what string) {
	t.Helper()
	if m, e := pack.Get(b); e != api.ErrCode || !code.Same(m, api.Module{}) {
		t.Fatalf("%s: Get(%s) = %s, %v, want ErrCode", what, brief(b), brief(m), e)
	}
}

func TestExample(t *testing.T) { // P10.1, P10.2, the chapter's example
	want := []byte{'E', 'F', 'F', '1', 0, 0, 1, 0, 1, 0, 1, 3, 0, 0}
	put(t, least(), want)
	if len(want) != 14 {
		t.Errorf("%d bytes", len(want))
	}
}

// TestEachPart has bytes that are told by hand.
func TestEachPart(t *testing.T) { // P10.1, P10.2
	put(t, api.Module{
		Ints:  []int64{0, 1, -1, 63, -64, 64, -65},
		Texts: []string{"", "ab", "\x80\n"},
		Protos: []api.Proto{
			proto(0, 9, 0, instr(api.OpJump, 0)),
			proto(5, 7, 3, instr(api.OpInt, 6), instr(api.OpText, 2), instr(api.OpHandle, 3)),
		},
		Handles: []api.Table{{}, {Ops: []int{2}, Return: true}, {Ops: []int{1, 0}, Finally: true}, {Return: true, Finally: true}},
	}, []byte{
		'E', 'F', 'F', '1',
		7, 0, 2, 1, 126, 127, 0x80, 1, 0x81, 1,
		3, 0, 2, 'a', 'b', 2, 0x80, '\n',
		2, 0, 9, 0, 1, 13, 0, 5, 7, 3, 3, 1, 6, 2, 2, 18, 3,
		4, 0, 0, 1, 2, 1, 2, 1, 0, 2, 0, 3,
	})
	put(t, sample(), joined(parts(sample())))
}

func TestEveryOperation(t *testing.T) { // P10.1, P10.2
	for op := range 256 {
		m := sample()
		m.Protos[1].Code[0].Op = uint8(op)
		m.Protos[1].Code[0].A = 0
		b := joined(parts(m))
		if op >= 1 && op <= 22 {
			put(t, m, b)
		} else {
			refusePut(t, m, "no operation")
			refuseGet(t, b, "no operation")
		}
	}
}

func TestLetters(t *testing.T) { // P10.1
	b, _ := pack.Put(sample())
	for place := range 4 {
		for c := range 256 {
			other := slices.Clone(b)
			other[place] = byte(c)
			if other[place] != b[place] {
				refuseGet(t, other, "other letters")
			}
		}
	}
	refuseGet(t, b[4:], "no letters")
	refuseGet(t, append([]byte("EFF1"), b...), "the letters twice")
	refuseGet(t, []byte(strings.Replace(string(b), "EFF1", "eff1", 1)), "small letters")
}

func TestTablesByte(t *testing.T) { // P10.1, P10.2
	for c := range 256 {
		m := sample()
		m.Handles[3].Return, m.Handles[3].Finally = c%2 == 1, c/2%2 == 1
		b := joined(parts(m))
		b[len(b)-1] = byte(c)
		if c < 4 {
			put(t, m, b)
		} else {
			refuseGet(t, b, "a table's byte")
		}
	}
}

func TestWhatIsNoModule(t *testing.T) { // P10.1
	for _, s := range []string{
		"", "E", "EFF", "EFF1", "EFF2", "EFF1\x00", "EFF1\x00\x00", "EFF1\x00\x00\x00", "\x00", "\xff\xff\xff\xff", "(+ 1 2)",
		"EFF1\x00\x00\x00\x00",                                               // there is no function
		"EFF1\x00\x00\x01\x00\x01\x00\x00\x00",                               // it has no instruction
		"EFF1\x00\x00\x01\x01\x02\x00\x01\x03\x00\x00",                       // the first function has a parameter
		"EFF1\x00\x00\x01\x00\x01\x01\x01\x03\x00\x00",                       // it captures something
		"EFF1\x00\x01\x02ab\x01\x00\x01\x00\x01\x03\x00\x01\x02\x00\x00\x00", // a table has an operation twice
	} {
		refuseGet(t, []byte(s), "no module")
	}
	refuseGet(t, nil, "nothing")
}

func TestCutAndMore(t *testing.T) { // P10.1
	for _, m := range []api.Module{least(), sample()} {
		b, _ := pack.Put(m)
		for n := range b {
			refuseGet(t, b[:n], "cut")
			refuseGet(t, b[n+1:], "cut ahead")
		}
		for c := range 256 {
			refuseGet(t, append(slices.Clone(b), byte(c)), "a byte more")
		}
		refuseGet(t, append(slices.Clone(b), b...), "twice")
	}
}

// TestEveryChange holds all bytes that are one byte away from a module's.
func TestEveryChange(t *testing.T) { // P10.1, P10.2
	right := 0
	for _, m := range []api.Module{least(), sample()} {
		b, _ := pack.Put(m)
		for place := range b {
			if check(t, slices.Delete(slices.Clone(b), place, place+1)) {
				right++
			}
			for c := range 256 {
				other := slices.Clone(b)
				other[place] = byte(c)
				for _, changed := range [][]byte{other, slices.Insert(slices.Clone(b), place, byte(c))} {
					if check(t, changed) {
						right++
					}
				}
			}
		}
	}
	if right < 1000 {
		t.Errorf("%d are a module's: too few", right)
	}
}

func TestEmptyListsAreNone(t *testing.T) { // P0.4
	m := sample()
	m.Handles[1].Ops = nil
	want := joined(parts(m))
	m.Handles[0].Ops, m.Handles[1].Ops = []int{}, []int{}
	put(t, m, want)
	put(t, api.Module{Ints: []int64{}, Texts: []string{}, Protos: least().Protos, Handles: []api.Table{}}, joined(parts(least())))
	refusePut(t, api.Module{Protos: []api.Proto{}}, "an empty list of functions")
	refusePut(t, api.Module{}, "nothing")
	refusePut(t, api.Module{Protos: []api.Proto{{Slots: 1, Code: []api.Instr{}}}}, "no instructions")
	refuseGet(t, []byte{}, "no bytes")
}

// What is handed in stays as it is, the room behind its lists' ends, too.
func TestNothingIsChanged(t *testing.T) { // P0.3
	whole := sample()
	told := fmt.Sprintf("%#v", whole)
	m := whole
	m.Ints, m.Texts, m.Handles, m.Protos = m.Ints[:1], m.Texts[:2], m.Handles[:2], slices.Clone(m.Protos[:1])
	m.Protos[0].Code = whole.Protos[1].Code[4:5]
	put(t, m, joined(parts(m)))
	if got := fmt.Sprintf("%#v", whole); got != told {
		t.Errorf("%s was changed to %s", told, got)
	}
	b := append(joined(parts(sample())), "behind the end"...)
	want := slices.Clone(b)
	if _, e := pack.Get(b[:len(b)-len("behind the end")]); e != api.OK || !bytes.Equal(b, want) {
		t.Errorf("%v: %v was changed to %v", e, want, b)
	}
}

// Nothing is kept: what is written into bytes or modules counts nowhere else.
func TestNothingIsKept(t *testing.T) { // P0.3, P0.5
	m := sample()
	want := joined(parts(m))
	b, _ := pack.Put(m)
	m.Texts[0], m.Ints[0], m.Protos[1].Code[0].A, m.Handles[1].Ops[0] = "other", 77, 1, 3
	if !bytes.Equal(b, want) {
		t.Errorf("Put's bytes hang on the module: %v", b)
	}
	n, _ := pack.Get(b)
	clear(b)
	if !code.Same(n, sample()) {
		t.Errorf("Get's module hangs on the bytes: %s", brief(n))
	}
	other, _ := pack.Put(sample())
	clear(other)
	put(t, sample(), want)
	spoilt, _ := pack.Get(want)
	spoilt.Texts[0], spoilt.Ints[0], spoilt.Protos[1].Code[0].A, spoilt.Handles[1].Ops[0] = "other", 77, 1, 3
	spoilt.Protos[0] = api.Proto{}
	put(t, sample(), want)
}

// No two lists of an answer share any memory, nor does one lie behind the other one's end.
func TestListsShareNothing(t *testing.T) { // P0.3
	b := joined(parts(sample()))
	m, _ := pack.Get(b)
	_ = append(m.Ints, 99)
	_ = append(m.Texts, "behind")
	_ = append(m.Protos, api.Proto{Slots: -1})
	_ = append(m.Handles, api.Table{Ops: []int{-1}})
	for _, p := range m.Protos {
		_ = append(p.Code, instr(99, 99))
	}
	for _, table := range m.Handles {
		_ = append(table.Ops, 99)
	}
	if !code.Same(m, sample()) {
		t.Errorf("%s", brief(m))
	}
	one, _ := pack.Put(sample())
	_ = append(one, 1, 2, 3)
	put(t, sample(), b)
}
