package pack_test

import (
	"bytes"
	"encoding/binary"
	"fmt"
	"io"
	"math/big"
	"testing"

	"sacristan/api"
	"sacristan/code"
	"sacristan/pack"
)

// part is a part of a module's bytes: a number, or what stands as it is.
type part struct {
	number bool
	n      uint64
	raw    string
}

func raw(s string) part { return part{raw: s} }

func size(n int) part { return part{number: true, n: uint64(n)} }

// signed is a number that may be below 0, reckoned without any limit.
func signed(x int64) part {
	n := new(big.Int).Mul(big.NewInt(x), big.NewInt(2))
	if n.Sign() < 0 {
		n.Sub(n.Neg(n), big.NewInt(1))
	}
	return part{number: true, n: n.Uint64()}
}

// parts are the parts of a module's bytes, as the chapter tells them, of a module that may not be, too.
func parts(m api.Module) []part {
	l := []part{raw("EFF1"), size(len(m.Ints))}
	for _, n := range m.Ints {
		l = append(l, signed(n))
	}
	l = append(l, size(len(m.Texts)))
	for _, s := range m.Texts {
		l = append(l, size(len(s)), raw(s))
	}
	l = append(l, size(len(m.Protos)))
	for _, p := range m.Protos {
		l = append(l, size(p.Params), size(p.Slots), size(p.Ups), size(len(p.Code)))
		for _, i := range p.Code {
			l = append(l, raw(string([]byte{i.Op})), size(i.A))
		}
	}
	l = append(l, size(len(m.Handles)))
	for _, table := range m.Handles {
		l = append(l, size(len(table.Ops)))
		for _, op := range table.Ops {
			l = append(l, size(op))
		}
		has := map[[2]bool]string{{true, false}: "\x01", {false, true}: "\x02", {true, true}: "\x03"}
		l = append(l, raw((has[[2]bool{table.Return, table.Finally}] + "\x00")[:1]))
	}
	return l
}

func joined(l []part) []byte {
	var b []byte
	for _, p := range l {
		b = append(b, p.bytes()...)
	}
	return b
}

func (p part) bytes() []byte {
	if p.number {
		return binary.AppendUvarint(nil, p.n)
	}
	return []byte(p.raw)
}

// loose is who reads bytes without asking for much: what was read is held against them later on.
type loose struct {
	from *bytes.Reader
	bad  bool
}

func (r *loose) number() uint64 {
	n, err := binary.ReadUvarint(r.from)
	r.bad = r.bad || err != nil
	return n
}

func (r *loose) size() int {
	n := r.number()
	if n > 1<<21 { // more than anything is that may be
		r.bad = true
		return 0
	}
	return int(n)
}

func (r *loose) raw(n int) []byte {
	b := make([]byte, n)
	_, err := io.ReadFull(r.from, b)
	r.bad = r.bad || err != nil
	return b
}

// times does something so many times, as long as nothing is bad.
func (r *loose) times(do func()) {
	for n := r.size(); n > 0 && !r.bad; n-- {
		do()
	}
}

func (r *loose) module() api.Module {
	var m api.Module
	r.bad = r.bad || string(r.raw(4)) != "EFF1"
	r.times(func() {
		n := new(big.Int).SetUint64(r.number())
		if n.Bit(0) == 1 {
			n.Neg(n.Add(n, big.NewInt(1)))
		}
		m.Ints = append(m.Ints, n.Quo(n, big.NewInt(2)).Int64())
	})
	r.times(func() { m.Texts = append(m.Texts, string(r.raw(r.size()))) })
	r.times(func() {
		p := api.Proto{}
		p.Params = r.size()
		p.Slots = r.size()
		p.Ups = r.size()
		r.times(func() {
			op := r.raw(1)[0]
			p.Code = append(p.Code, instr(op, r.size()))
		})
		m.Protos = append(m.Protos, p)
	})
	r.times(func() {
		var table api.Table
		r.times(func() { table.Ops = append(table.Ops, r.size()) })
		has := r.raw(1)[0]
		table.Return, table.Finally = has%2 == 1, has >= 2
		m.Handles = append(m.Handles, table)
	})
	return m
}

// modelGet is the module whose bytes these are, and true: one that has just these.
func modelGet(b []byte) (api.Module, bool) {
	r := loose{from: bytes.NewReader(b)}
	m := r.module()
	if r.bad || len(b) > 1<<20 || !bytes.Equal(joined(parts(m)), b) || !code.May(m) {
		return api.Module{}, false
	}
	return m, true
}

// check holds Get of any bytes, and Put of what it gives, against the model.
func check(t *testing.T, b []byte) bool {
	t.Helper()
	before := bytes.Clone(b)
	want, ok := modelGet(b)
	got, e := pack.Get(b)
	if !bytes.Equal(b, before) {
		t.Fatalf("%s was changed to %s", brief(before), brief(b)) // P0.3
	}
	if ok != (e == api.OK) || !ok && e != api.ErrCode || !code.Same(got, want) {
		t.Fatalf("Get(%s) = %s, %v, want %s, %v", brief(b), brief(got), e, brief(want), ok)
	}
	if !ok {
		return false
	}
	if back, e := pack.Put(got); e != api.OK || !bytes.Equal(back, b) {
		t.Fatalf("%s was got, but put as %s, %v", brief(b), brief(back), e)
	}
	return true
}

// checkModule holds Put of any module against the model, and Get of its bytes.
func checkModule(t *testing.T, m api.Module) bool {
	t.Helper()
	told := fmt.Sprintf("%#v", m)
	b, e := pack.Put(m)
	if fmt.Sprintf("%#v", m) != told {
		t.Fatalf("%s isn't as it was", brief(m)) // P0.3
	}
	if !code.May(m) {
		refusePut(t, m, "it may not be")
		return false
	}
	if e != api.OK || !bytes.Equal(b, joined(parts(m))) {
		t.Fatalf("Put(%s) = %s, %v", brief(m), brief(b), e)
	}
	if n, e := pack.Get(b); e != api.OK || !code.Same(n, m) {
		t.Fatalf("%s was put, but got as %s, %v", brief(m), brief(n), e)
	}
	return true
}
