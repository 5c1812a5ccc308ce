package value_test

import (
	"fmt"
	"math"
	"strings"
	"testing"

	"sacristan/api"
	"sacristan/value"
)

const (
	least    = math.MinInt64
	greatest = math.MaxInt64
)

var (
	full = strings.Repeat("x", api.MaxText)
	unit = api.Value{}
)

func oneWords() []string {
	return []string{"neg", "not", "len", "i8", "i16", "i32", "u8", "u16", "u32"}
}

func twoWords() []string {
	return []string{"+", "-", "*", "/", "%", "and", "or", "xor", "shl", "shr", "ushr", "<", "=", "cat", "at"}
}

// noWords are texts that are no words, alone or by as many values.
func noWords() []string {
	return []string{"", " ", "+ ", " +", "++", "ADD", "Neg", "i64", "u64", "i", "u", "i08", "u7", "==", ">", "<=", "pair", "fst", "out", "in", "\x00", "\xff\xfe", "\xff+", full}
}

func mayBe() []api.Value {
	vs := []api.Value{unit, value.Is(false), value.Is(true)}
	for _, n := range numbers() {
		vs = append(vs, value.Of(n))
	}
	for _, s := range []string{"", "a", "b", "ab", "aa", "A", "\x00", "a\x00", "\xff", "\x80", "é", full[1:], full} {
		vs = append(vs, value.Text(s))
	}
	for tag := api.Pair; tag <= api.Cont; tag++ {
		for _, n := range []int64{0, 1, api.MaxHeap - 1, api.MaxHeap, greatest} {
			vs = append(vs, api.Value{Tag: tag, N: n})
		}
	}
	return vs
}

func mayNotBe() []api.Value {
	vs := []api.Value{
		{N: 1}, {N: -1}, {S: "x"},
		{Tag: api.Int, S: "x"}, {Tag: api.Int, N: 5, S: "\x00"},
		{Tag: api.Bool, N: 2}, {Tag: api.Bool, N: -1}, {Tag: api.Bool, N: least}, {Tag: api.Bool, S: "x"}, {Tag: api.Bool, N: 1, S: "x"},
		{Tag: api.Str, N: 1}, {Tag: api.Str, N: -1, S: "x"}, {Tag: api.Str, S: full + "x"}, {Tag: api.Str, S: full + full},
	}
	for tag := api.Pair; tag <= api.Cont; tag++ {
		vs = append(vs, api.Value{Tag: tag, N: -1}, api.Value{Tag: tag, N: least}, api.Value{Tag: tag, S: "x"}, api.Value{Tag: tag, N: 1, S: "x"})
	}
	for _, tag := range []uint8{8, 9, 127, 128, 255} {
		vs = append(vs, api.Value{Tag: tag}, api.Value{Tag: tag, N: 1}, api.Value{Tag: tag, S: "x"})
	}
	return vs
}

func numbers() []int64 {
	ns := []int64{0, 3, 5, 7, 10, 62, 63, 64, 65, -62, -63, -64, -65, 3037000499, 3037000500, -3037000499, -3037000500, least, least + 1, least / 2, greatest, greatest - 1, greatest / 2, 0x123456789abcdef, -0x123456789abcdef}
	for _, bits := range []int{0, 1, 7, 8, 15, 16, 31, 32, 33, 62} {
		n := int64(1) << bits
		ns = append(ns, n-1, n, n+1, -n-1, -n, -n+1)
	}
	return ns
}

// told keeps a failure's line short and readable, whatever bytes a value has.
func told(v api.Value) string { return fmt.Sprintf("{%d %d %.20q}", v.Tag, v.N, v.S) }

func TestMakers(t *testing.T) { // P1.1
	for _, n := range numbers() {
		if v := value.Of(n); v != (api.Value{Tag: api.Int, N: n}) {
			t.Error("Of", n, v)
		}
	}
	if v := value.Is(false); v != (api.Value{Tag: api.Bool, N: 0}) {
		t.Error("Is false", v)
	}
	if v := value.Is(true); v != (api.Value{Tag: api.Bool, N: 1}) {
		t.Error("Is true", v)
	}
	for _, s := range []string{"", "a", "\x00\xff", full, full + "x"} {
		if v := value.Text(s); v != (api.Value{Tag: api.Str, S: s}) {
			t.Error("Text", len(s), told(v))
		}
	}
}

func TestMay(t *testing.T) { // P1.1
	for _, v := range mayBe() {
		if !value.May(v) {
			t.Error("may be, but is told not to", told(v))
		}
	}
	for _, v := range mayNotBe() {
		if value.May(v) {
			t.Error("may not be, but is told to", told(v))
		}
	}
	if value.May(value.Text(full + "x")) {
		t.Error("a Str of more than MaxText bytes may be")
	}
}

func TestMayAtEveryTag(t *testing.T) { // P1.1
	for tag := 0; tag <= math.MaxUint8; tag++ {
		v := api.Value{Tag: uint8(tag)}
		if want := tag <= int(api.Cont); value.May(v) != want {
			t.Error("Tag", tag, "may be:", !want)
		}
	}
}

func TestOneByHand(t *testing.T) { // P1.1
	for _, x := range []struct {
		word string
		v    api.Value
		want api.Value
		e    api.Errno
	}{
		{"neg", value.Of(5), value.Of(-5), api.OK},
		{"neg", value.Of(0), value.Of(0), api.OK},
		{"neg", value.Of(greatest), value.Of(least + 1), api.OK},
		{"neg", value.Of(least), unit, api.ErrOver},
		{"neg", value.Is(true), unit, api.ErrTag},
		{"not", value.Is(true), value.Is(false), api.OK},
		{"not", value.Is(false), value.Is(true), api.OK},
		{"not", value.Of(0), unit, api.ErrTag},
		{"not", unit, unit, api.ErrTag},
		{"len", value.Text(""), value.Of(0), api.OK},
		{"len", value.Text("é"), value.Of(2), api.OK},
		{"len", value.Text("\xff\x00"), value.Of(2), api.OK},
		{"len", value.Text(full), value.Of(65536), api.OK},
		{"len", value.Of(3), unit, api.ErrTag},
		{"i8", value.Of(127), value.Of(127), api.OK},
		{"i8", value.Of(128), value.Of(-128), api.OK},
		{"i8", value.Of(-129), value.Of(127), api.OK},
		{"i8", value.Of(0x1ff), value.Of(-1), api.OK},
		{"i16", value.Of(32768), value.Of(-32768), api.OK},
		{"i16", value.Of(-32769), value.Of(32767), api.OK},
		{"i32", value.Of(1 << 31), value.Of(-1 << 31), api.OK},
		{"i32", value.Of(greatest), value.Of(-1), api.OK},
		{"i32", value.Of(least), value.Of(0), api.OK},
		{"u8", value.Of(-1), value.Of(255), api.OK},
		{"u8", value.Of(256), value.Of(0), api.OK},
		{"u16", value.Of(-1), value.Of(65535), api.OK},
		{"u16", value.Of(65536), value.Of(0), api.OK},
		{"u32", value.Of(-1), value.Of(4294967295), api.OK},
		{"u32", value.Of(1 << 32), value.Of(0), api.OK},
		{"u32", value.Of(least), value.Of(0), api.OK},
		{"i8", value.Text("a"), unit, api.ErrTag},
		{"u32", value.Is(true), unit, api.ErrTag},
		{"u16", api.Value{Tag: api.Pair, N: 7}, unit, api.ErrTag},
	} {
		if v, e := value.One(x.word, x.v); v != x.want || e != x.e {
			t.Error("One", x.word, told(x.v), "is", told(v), e, "not", told(x.want), x.e)
		}
	}
}

func TestTwoByHand(t *testing.T) { // P1.1
	for _, x := range []struct {
		word string
		a, b api.Value
		want api.Value
		e    api.Errno
	}{
		{"+", value.Of(2), value.Of(3), value.Of(5), api.OK},
		{"+", value.Of(greatest), value.Of(1), unit, api.ErrOver},
		{"+", value.Of(least), value.Of(-1), unit, api.ErrOver},
		{"+", value.Of(greatest), value.Of(least), value.Of(-1), api.OK},
		{"-", value.Of(2), value.Of(3), value.Of(-1), api.OK},
		{"-", value.Of(-1), value.Of(least), value.Of(greatest), api.OK},
		{"-", value.Of(0), value.Of(least), unit, api.ErrOver},
		{"-", value.Of(least), value.Of(1), unit, api.ErrOver},
		{"*", value.Of(-7), value.Of(6), value.Of(-42), api.OK},
		{"*", value.Of(-1), value.Of(least), unit, api.ErrOver},
		{"*", value.Of(least), value.Of(-1), unit, api.ErrOver},
		{"*", value.Of(least), value.Of(1), value.Of(least), api.OK},
		{"*", value.Of(1 << 32), value.Of(1 << 32), unit, api.ErrOver},
		{"*", value.Of(0), value.Of(least), value.Of(0), api.OK},
		{"*", value.Of(least), value.Of(0), value.Of(0), api.OK},
		{"/", value.Of(7), value.Of(2), value.Of(3), api.OK},
		{"/", value.Of(-7), value.Of(2), value.Of(-3), api.OK},
		{"/", value.Of(7), value.Of(-2), value.Of(-3), api.OK},
		{"/", value.Of(-7), value.Of(-2), value.Of(3), api.OK},
		{"/", value.Of(least), value.Of(-1), unit, api.ErrOver},
		{"/", value.Of(least), value.Of(0), unit, api.ErrZero},
		{"/", value.Of(0), value.Of(0), unit, api.ErrZero},
		{"%", value.Of(7), value.Of(2), value.Of(1), api.OK},
		{"%", value.Of(-7), value.Of(2), value.Of(-1), api.OK},
		{"%", value.Of(7), value.Of(-2), value.Of(1), api.OK},
		{"%", value.Of(-7), value.Of(-2), value.Of(-1), api.OK},
		{"%", value.Of(least), value.Of(-1), value.Of(0), api.OK},
		{"%", value.Of(1), value.Of(0), unit, api.ErrZero},
		{"and", value.Of(12), value.Of(10), value.Of(8), api.OK},
		{"or", value.Of(12), value.Of(10), value.Of(14), api.OK},
		{"xor", value.Of(12), value.Of(10), value.Of(6), api.OK},
		{"xor", value.Of(-1), value.Of(0), value.Of(-1), api.OK},
		{"and", value.Is(true), value.Is(true), unit, api.ErrTag},
		{"shl", value.Of(1), value.Of(63), value.Of(least), api.OK},
		{"shl", value.Of(3), value.Of(63), value.Of(least), api.OK},
		{"shl", value.Of(2), value.Of(63), value.Of(0), api.OK},
		{"shl", value.Of(1), value.Of(64), unit, api.ErrIndex},
		{"shl", value.Of(1), value.Of(-1), unit, api.ErrIndex},
		{"shr", value.Of(-1), value.Of(63), value.Of(-1), api.OK},
		{"shr", value.Of(-8), value.Of(1), value.Of(-4), api.OK},
		{"shr", value.Of(8), value.Of(64), unit, api.ErrIndex},
		{"shr", value.Of(8), value.Of(least), unit, api.ErrIndex},
		{"ushr", value.Of(-1), value.Of(63), value.Of(1), api.OK},
		{"ushr", value.Of(-1), value.Of(0), value.Of(-1), api.OK},
		{"ushr", value.Of(8), value.Of(greatest), unit, api.ErrIndex},
		{"ushr", value.Of(8), value.Of(-64), unit, api.ErrIndex},
		{"<", value.Of(-1), value.Of(0), value.Is(true), api.OK},
		{"<", value.Of(0), value.Of(0), value.Is(false), api.OK},
		{"<", value.Text("a"), value.Text("aa"), value.Is(true), api.OK},
		{"<", value.Text("Z"), value.Text("a"), value.Is(true), api.OK},
		{"<", value.Text("\x7f"), value.Text("\x80"), value.Is(true), api.OK},
		{"<", value.Text("\xff"), value.Text("é"), value.Is(false), api.OK},
		{"<", value.Text(""), value.Text(""), value.Is(false), api.OK},
		{"<", value.Of(1), value.Text("a"), unit, api.ErrTag},
		{"<", value.Text("a"), value.Of(1), unit, api.ErrTag},
		{"<", value.Is(false), value.Is(true), unit, api.ErrTag},
		{"<", unit, unit, unit, api.ErrTag},
		{"=", unit, unit, value.Is(true), api.OK},
		{"=", value.Of(1), value.Of(1), value.Is(true), api.OK},
		{"=", value.Of(1), value.Of(2), value.Is(false), api.OK},
		{"=", value.Is(true), value.Is(false), value.Is(false), api.OK},
		{"=", value.Is(false), value.Is(false), value.Is(true), api.OK},
		{"=", value.Text("a"), value.Text("a"), value.Is(true), api.OK},
		{"=", value.Text("a"), value.Text("b"), value.Is(false), api.OK},
		{"=", value.Of(1), value.Is(true), unit, api.ErrTag},
		{"=", unit, value.Of(0), unit, api.ErrTag},
		{"=", api.Value{Tag: api.Pair}, api.Value{Tag: api.Pair}, unit, api.ErrTag},
		{"=", api.Value{Tag: api.Cont}, api.Value{Tag: api.Cont}, unit, api.ErrTag},
		{"cat", value.Text("ab"), value.Text("c"), value.Text("abc"), api.OK},
		{"cat", value.Text(""), value.Text(""), value.Text(""), api.OK},
		{"cat", value.Text(full), value.Text(""), value.Text(full), api.OK},
		{"cat", value.Text(full[1:]), value.Text("y"), value.Text(full[1:] + "y"), api.OK},
		{"cat", value.Text(full), value.Text("y"), unit, api.ErrOver},
		{"cat", value.Text("y"), value.Text(full), unit, api.ErrOver},
		{"cat", value.Text(full), value.Of(1), unit, api.ErrTag},
		{"cat", value.Of(1), value.Text(full), unit, api.ErrTag},
		{"at", value.Text("ab\xff"), value.Of(0), value.Of('a'), api.OK},
		{"at", value.Text("ab\xff"), value.Of(2), value.Of(255), api.OK},
		{"at", value.Text("ab\xff"), value.Of(3), unit, api.ErrIndex},
		{"at", value.Text("ab\xff"), value.Of(-1), unit, api.ErrIndex},
		{"at", value.Text("ab\xff"), value.Of(1 << 32), unit, api.ErrIndex},
		{"at", value.Text(""), value.Of(0), unit, api.ErrIndex},
		{"at", value.Text(full), value.Of(65535), value.Of('x'), api.OK},
		{"at", value.Of(0), value.Text("a"), unit, api.ErrTag},
		{"at", value.Text("a"), value.Is(false), unit, api.ErrTag},
	} {
		if v, e := value.Two(x.word, x.a, x.b); v != x.want || e != x.e {
			t.Error("Two", x.word, told(x.a), told(x.b), "is", told(v), e, "not", told(x.want), x.e)
		}
	}
}

// TestOrderOfErrors: where several apply, the first one is told.
func TestOrderOfErrors(t *testing.T) { // P1.1, P0.2
	for _, x := range []struct {
		word string
		a, b api.Value
		e    api.Errno
	}{
		{"div", value.Text("a"), value.Of(0), api.ErrArg},
		{"sar", value.Text("a"), value.Of(64), api.ErrArg},
		{"/", value.Text("a"), value.Of(0), api.ErrTag},
		{"%", value.Is(true), value.Of(0), api.ErrTag},
		{"/", value.Of(0), unit, api.ErrTag},
		{"shl", value.Text("a"), value.Of(64), api.ErrTag},
		{"ushr", value.Text("a"), value.Of(-1), api.ErrTag},
		{"at", value.Of(1), value.Of(-1), api.ErrTag},
		{"cat", value.Text(full), api.Value{Tag: api.Fun}, api.ErrTag},
	} {
		if v, e := value.Two(x.word, x.a, x.b); v != unit || e != x.e {
			t.Error("Two", x.word, told(x.a), told(x.b), "is", told(v), e, "not", x.e)
		}
	}
}

// TestNoSuchWord: a word of two values is none of one, and the other way round.
func TestNoSuchWord(t *testing.T) { // P1.1
	some := []api.Value{unit, value.Of(1), value.Is(true), value.Text("a"), {Tag: api.Pair}, {Tag: 9}}
	for _, word := range append(noWords(), twoWords()...) {
		for _, v := range some {
			if r, e := value.One(word, v); r != unit || e != api.ErrArg {
				t.Fatalf("One %.20q %v is %v %v", word, v, r, e)
			}
		}
	}
	for _, word := range append(noWords(), oneWords()...) {
		for _, a := range some {
			for _, b := range some {
				if r, e := value.Two(word, a, b); r != unit || e != api.ErrArg {
					t.Fatalf("Two %.20q %v %v is %v %v", word, a, b, r, e)
				}
			}
		}
	}
}

// TestWhatIsReckonedMayBe goes through all values, those that may not be too.
func TestWhatIsReckonedMayBe(t *testing.T) { // P1.2, P0.1, P0.2
	look := func(call, word string, v api.Value, e api.Errno) {
		if !value.May(v) {
			t.Fatalf("%s %.20q is %s that may not be", call, word, told(v))
		}
		if e != api.OK && v != unit {
			t.Fatalf("%s %.20q is %s beside %v", call, word, told(v), e)
		}
	}
	all := append(mayBe(), mayNotBe()...)
	words := append(append(noWords(), oneWords()...), twoWords()...)
	for _, word := range words {
		for _, a := range all {
			v, e := value.One(word, a)
			look("One", word, v, e)
			for _, b := range all {
				v, e := value.Two(word, a, b)
				look("Two", word, v, e)
			}
		}
	}
}
