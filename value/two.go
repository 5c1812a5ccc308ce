package value

import (
	"math"

	"sacristan/api"
)

func below(a, b api.Value) (api.Value, api.Errno) {
	switch {
	case a.Tag == api.Int && b.Tag == api.Int:
		return Is(a.N < b.N), api.OK
	case a.Tag == api.Str && b.Tag == api.Str:
		return Is(a.S < b.S), api.OK
	}
	return api.Value{}, api.ErrTag
}

func same(a, b api.Value) (api.Value, api.Errno) {
	if a.Tag != b.Tag || a.Tag > api.Str {
		return api.Value{}, api.ErrTag
	}
	return Is(a == b), api.OK
}

func joined(a, b api.Value) (api.Value, api.Errno) {
	if a.Tag != api.Str || b.Tag != api.Str {
		return api.Value{}, api.ErrTag
	}
	if len(a.S)+len(b.S) > api.MaxText {
		return api.Value{}, api.ErrOver
	}
	return Text(a.S + b.S), api.OK
}

func byteAt(a, b api.Value) (api.Value, api.Errno) {
	if a.Tag != api.Str || b.Tag != api.Int {
		return api.Value{}, api.ErrTag
	}
	if b.N < 0 || b.N >= int64(len(a.S)) {
		return api.Value{}, api.ErrIndex
	}
	return Of(int64(a.S[b.N])), api.OK
}

// reckoned is what a word of two Ints comes to.
func reckoned(word string, a, b int64) (int64, api.Errno) {
	switch word {
	case "+":
		return sum(a, b)
	case "-":
		return difference(a, b)
	case "*":
		return product(a, b)
	case "/":
		return quotient(a, b)
	case "%":
		return remainder(a, b)
	case "and":
		return a & b, api.OK
	case "or":
		return a | b, api.OK
	case "xor":
		return a ^ b, api.OK
	}
	return moved(word, a, b)
}

func sum(a, b int64) (int64, api.Errno) {
	n := a + b
	if (n > a) != (b > 0) {
		return 0, api.ErrOver
	}
	return n, api.OK
}

func difference(a, b int64) (int64, api.Errno) {
	n := a - b
	if (n < a) != (b > 0) {
		return 0, api.ErrOver
	}
	return n, api.OK
}

func product(a, b int64) (int64, api.Errno) {
	if a == 0 {
		return 0, api.OK
	}
	n := a * b
	// -1 times the least Int wraps too, but divides back to what it was made of.
	if n/a != b || a == -1 && b == math.MinInt64 {
		return 0, api.ErrOver
	}
	return n, api.OK
}

func quotient(a, b int64) (int64, api.Errno) {
	if b == 0 {
		return 0, api.ErrZero
	}
	if a == math.MinInt64 && b == -1 {
		return 0, api.ErrOver
	}
	return a / b, api.OK
}

func remainder(a, b int64) (int64, api.Errno) {
	if b == 0 {
		return 0, api.ErrZero
	}
	return a % b, api.OK
}

// moved is a with its bits moved by b.
func moved(word string, a, b int64) (int64, api.Errno) {
	if b < 0 || b > 63 {
		return 0, api.ErrIndex
	}
	switch word {
	case "shl":
		return a << b, api.OK
	case "shr":
		return a >> b, api.OK
	}
	return int64(uint64(a) >> b), api.OK
}
