package pack

import (
	"bytes"
	"math"

	"sacristan/api"
)

// reader is who reads a module's bytes: those that aren't read yet.
type reader struct{ rest []byte }

func (r *reader) module() api.Module {
	r.begin()
	m := api.Module{
		Ints:    list(r, r.signed),
		Texts:   list(r, r.text),
		Protos:  list(r, r.proto),
		Handles: list(r, r.table),
	}
	if len(r.rest) > 0 {
		panic(missing{})
	}
	return m
}

// begin reads the letters.
func (r *reader) begin() {
	rest, ok := bytes.CutPrefix(r.rest, []byte(letters))
	if !ok {
		panic(missing{})
	}
	r.rest = rest
}

// list reads a list: how many things it has, and each.
func list[T any](r *reader, one func() T) []T {
	// No room ahead: how many there are is told by bytes that nobody has looked at.
	var l []T
	for range r.size() {
		l = append(l, one())
	}
	return l
}

func (r *reader) next() byte {
	if len(r.rest) == 0 {
		panic(missing{})
	}
	c := r.rest[0]
	r.rest = r.rest[1:]
	return c
}

// number reads a number.
func (r *reader) number() uint64 {
	var n uint64
	for shift := 0; ; shift += 7 {
		c := r.next()
		bits := uint64(c &^ (1 << 7))
		if bits<<shift>>shift != bits {
			panic(missing{}) // it is too great
		}
		if c == 0 && shift > 0 {
			panic(missing{}) // it has fewer bytes without this one
		}
		n |= bits << shift
		if c < 1<<7 {
			return n
		}
	}
}

// size reads a size or a place.
func (r *reader) size() int {
	n := r.number()
	if n > math.MaxInt {
		panic(missing{})
	}
	return int(n)
}

func (r *reader) signed() int64 {
	n := r.number()
	if n%2 > 0 {
		return ^int64(n / 2)
	}
	return int64(n / 2)
}

func (r *reader) text() string {
	n := r.size()
	if n > len(r.rest) {
		panic(missing{})
	}
	s := string(r.rest[:n])
	r.rest = r.rest[n:]
	return s
}

func (r *reader) proto() api.Proto {
	return api.Proto{Params: r.size(), Slots: r.size(), Ups: r.size(), Code: list(r, r.instr)}
}

func (r *reader) instr() api.Instr { return api.Instr{Op: r.next(), A: r.size()} }

func (r *reader) table() api.Table {
	ops := list(r, r.size)
	has := r.next()
	if has > hasReturn|hasFinally {
		panic(missing{})
	}
	return api.Table{Ops: ops, Return: has&hasReturn > 0, Finally: has&hasFinally > 0}
}
