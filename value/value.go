// Package value is layer 1: values, and what is reckoned with them. See shared/doc/01-value.md.
package value

import "sacristan/api"

// Of is an Int.
func Of(n int64) api.Value { return api.Value{Tag: api.Int, N: n} }

// Is is a Bool.
func Is(b bool) api.Value {
	if b {
		return api.Value{Tag: api.Bool, N: 1}
	}
	return api.Value{Tag: api.Bool}
}

// Text is a Str. One of more than MaxText bytes is told as it is, and may not be.
func Text(s string) api.Value { return api.Value{Tag: api.Str, S: s} }

// May tells whether a value may be.
func May(v api.Value) bool {
	// Held against the value that has only what is told of its Tag, so that whatever else stands in it shows.
	switch v.Tag {
	case api.Unit:
		return v == api.Value{}
	case api.Int:
		return v == Of(v.N)
	case api.Bool:
		return v == Is(false) || v == Is(true)
	case api.Str:
		return v == Text(v.S) && len(v.S) <= api.MaxText
	case api.Pair, api.Cell, api.Fun, api.Cont:
		return v == api.Value{Tag: v.Tag, N: v.N} && v.N >= 0
	}
	return false
}

// One reckons with a value.
func One(word string, v api.Value) (api.Value, api.Errno) {
	switch word {
	case "neg":
		return negative(v)
	case "not":
		return opposite(v)
	case "len":
		return length(v)
	}
	n, ok := sized(word, v.N)
	if !ok {
		return api.Value{}, api.ErrArg
	}
	if v.Tag != api.Int {
		return api.Value{}, api.ErrTag
	}
	return Of(n), api.OK
}

// Two reckons with two values.
func Two(word string, a, b api.Value) (api.Value, api.Errno) {
	switch word {
	case "<":
		return below(a, b)
	case "=":
		return same(a, b)
	case "cat":
		return joined(a, b)
	case "at":
		return byteAt(a, b)
	case "+", "-", "*", "/", "%", "and", "or", "xor", "shl", "shr", "ushr":
		if a.Tag != api.Int || b.Tag != api.Int {
			return api.Value{}, api.ErrTag
		}
		return number(reckoned(word, a.N, b.N))
	}
	return api.Value{}, api.ErrArg
}

// number keeps what was reckoned by the way from being told beside an error.
func number(n int64, e api.Errno) (api.Value, api.Errno) {
	if e != api.OK {
		return api.Value{}, e
	}
	return Of(n), api.OK
}
