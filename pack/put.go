package pack

import "sacristan/api"

func putModule(b []byte, m api.Module) []byte {
	b = append(b, letters...)
	b = putList(b, m.Ints, putSigned)
	b = putList(b, m.Texts, putText)
	b = putList(b, m.Protos, putProto)
	return putList(b, m.Handles, putTable)
}

// putList puts how many things a list has, and each, behind bytes.
func putList[T any](b []byte, l []T, one func([]byte, T) []byte) []byte {
	b = putSize(b, len(l))
	for _, x := range l {
		b = one(b, x)
	}
	return b
}

// putNumber puts a number's bytes behind others.
func putNumber(b []byte, n uint64) []byte {
	for ; n >= 1<<7; n >>= 7 {
		b = append(b, byte(n)|1<<7)
	}
	return append(b, byte(n))
}

// putSize puts a size or a place, that isn't below 0, since the module may be.
func putSize(b []byte, n int) []byte { return putNumber(b, uint64(n)) }

func putSigned(b []byte, n int64) []byte {
	if n < 0 {
		// Twice the opposite, less one, by ^n, since not every number has its opposite.
		return putNumber(b, 2*uint64(^n)+1)
	}
	return putNumber(b, 2*uint64(n))
}

func putText(b []byte, s string) []byte { return append(putSize(b, len(s)), s...) }

func putProto(b []byte, p api.Proto) []byte {
	for _, n := range []int{p.Params, p.Slots, p.Ups} {
		b = putSize(b, n)
	}
	return putList(b, p.Code, putInstr)
}

func putInstr(b []byte, i api.Instr) []byte { return putSize(append(b, i.Op), i.A) }

func putTable(b []byte, t api.Table) []byte {
	var has byte
	if t.Return {
		has |= hasReturn
	}
	if t.Finally {
		has |= hasFinally
	}
	return append(putList(b, t.Ops, putSize), has)
}
