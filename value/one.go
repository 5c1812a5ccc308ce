package value

import "sacristan/api"

func negative(v api.Value) (api.Value, api.Errno) {
	if v.Tag != api.Int {
		return api.Value{}, api.ErrTag
	}
	return number(difference(0, v.N))
}

func opposite(v api.Value) (api.Value, api.Errno) {
	if v.Tag != api.Bool {
		return api.Value{}, api.ErrTag
	}
	return Is(v == Is(false)), api.OK
}

func length(v api.Value) (api.Value, api.Errno) {
	if v.Tag != api.Str {
		return api.Value{}, api.ErrTag
	}
	return Of(int64(len(v.S))), api.OK
}

// sized is the number with the lowest bits of n that a word tells the size of, and whether it tells one.
func sized(word string, n int64) (int64, bool) {
	signed := func(bits int) int64 {
		lost := 64 - bits
		return n << lost >> lost // up and down again: what comes back from above are copies of the sign
	}
	unsigned := func(bits int) int64 { return n & (1<<bits - 1) }
	switch word {
	case "i8":
		return signed(8), true
	case "i16":
		return signed(16), true
	case "i32":
		return signed(32), true
	case "u8":
		return unsigned(8), true
	case "u16":
		return unsigned(16), true
	case "u32":
		return unsigned(32), true
	}
	return 0, false
}
