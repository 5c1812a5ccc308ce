package value_test

import (
	"math/big"
	"testing"

	"sacristan/api"
	"sacristan/value"
)

// The answers are reckoned again here without any limit of size, and cut behind that, so that nothing wraps unseen.

func power(bits uint) *big.Int { return new(big.Int).Lsh(big.NewInt(1), bits) }

// lowest is the number with the same lowest bits.
func lowest(n *big.Int, bits uint, signed bool) *big.Int {
	r := new(big.Int).Mod(n, power(bits))
	if signed && r.Cmp(power(bits-1)) >= 0 {
		r.Sub(r, power(bits))
	}
	return r
}

func wantOne(word string, v api.Value) (api.Value, api.Errno) {
	tags := map[string]uint8{"not": api.Bool, "len": api.Str}
	tag, ok := tags[word]
	if !ok {
		tag = api.Int
	}
	if v.Tag != tag {
		return api.Value{}, api.ErrTag
	}
	n := big.NewInt(v.N)
	switch word {
	case "not":
		return value.Is(v.N == 0), api.OK
	case "len":
		return value.Of(int64(len([]byte(v.S)))), api.OK
	case "neg":
		n.Neg(n)
	case "i8":
		n = lowest(n, 8, true)
	case "i16":
		n = lowest(n, 16, true)
	case "i32":
		n = lowest(n, 32, true)
	case "u8":
		n = lowest(n, 8, false)
	case "u16":
		n = lowest(n, 16, false)
	case "u32":
		n = lowest(n, 32, false)
	}
	return wantNumber(n)
}

func wantNumber(n *big.Int) (api.Value, api.Errno) {
	if !n.IsInt64() {
		return api.Value{}, api.ErrOver
	}
	return value.Of(n.Int64()), api.OK
}

func wantTwo(word string, a, b api.Value) (api.Value, api.Errno) {
	ints, strs := a.Tag == api.Int && b.Tag == api.Int, a.Tag == api.Str && b.Tag == api.Str
	switch {
	case word == "at" && a.Tag == api.Str && b.Tag == api.Int:
		for i, c := range []byte(a.S) {
			if int64(i) == b.N {
				return value.Of(int64(c)), api.OK
			}
		}
		return api.Value{}, api.ErrIndex
	case word == "cat" && strs:
		if l := len(a.S) + len(b.S); l > 65536 {
			return api.Value{}, api.ErrOver
		}
		return value.Text(string(append([]byte(a.S), b.S...))), api.OK
	case word == "<" && strs:
		return value.Is(ahead([]byte(a.S), []byte(b.S))), api.OK
	case word == "=" && a.Tag == b.Tag && a.Tag <= api.Str:
		return value.Is(a.N == b.N && a.S == b.S), api.OK
	case word == "<" && ints:
		return value.Is(big.NewInt(a.N).Cmp(big.NewInt(b.N)) < 0), api.OK
	case word == "at" || word == "cat" || word == "=" || !ints:
		return api.Value{}, api.ErrTag
	}
	return wantInts(word, big.NewInt(a.N), big.NewInt(b.N))
}

func ahead(a, b []byte) bool {
	for i := 0; i < len(a) && i < len(b); i++ {
		if a[i] != b[i] {
			return a[i] < b[i]
		}
	}
	return len(a) < len(b)
}

func wantInts(word string, a, b *big.Int) (api.Value, api.Errno) {
	n := new(big.Int)
	switch word {
	case "+":
		n.Add(a, b)
	case "-":
		n.Sub(a, b)
	case "*":
		n.Mul(a, b)
	case "and":
		n.And(a, b)
	case "or":
		n.Or(a, b)
	case "xor":
		n.Xor(a, b)
	case "/", "%":
		if b.Sign() == 0 {
			return api.Value{}, api.ErrZero
		}
		if word == "/" {
			n.Quo(a, b)
		} else {
			n.Rem(a, b)
		}
	default:
		if b.Sign() < 0 || b.Cmp(big.NewInt(63)) > 0 {
			return api.Value{}, api.ErrIndex
		}
		by := uint(b.Int64())
		switch word {
		case "shl":
			n = lowest(n.Lsh(a, by), 64, true)
		case "shr":
			n.Rsh(a, by)
		case "ushr":
			n = lowest(n.Rsh(lowest(a, 64, false), by), 64, true)
		}
	}
	return wantNumber(n)
}

func checkOne(t *testing.T, word string, v api.Value) {
	t.Helper()
	r, e := value.One(word, v)
	if w, we := wantOne(word, v); r != w || e != we {
		t.Fatalf("One %s %s is %s %v, not %s %v", word, told(v), told(r), e, told(w), we)
	}
}

func checkTwo(t *testing.T, word string, a, b api.Value) {
	t.Helper()
	r, e := value.Two(word, a, b)
	if w, we := wantTwo(word, a, b); r != w || e != we {
		t.Fatalf("Two %s %s %s is %s %v, not %s %v", word, told(a), told(b), told(r), e, told(w), we)
	}
}

func TestOneAtManyValues(t *testing.T) { // P1.1
	for _, word := range oneWords() {
		for _, v := range mayBe() {
			checkOne(t, word, v)
		}
	}
}

func TestTwoAtManyValues(t *testing.T) { // P1.1
	for _, word := range twoWords() {
		for _, a := range mayBe() {
			for _, b := range mayBe() {
				checkTwo(t, word, a, b)
			}
		}
	}
}

func TestEverySizeOfMove(t *testing.T) { // P1.1
	for _, word := range []string{"shl", "shr", "ushr"} {
		for by := int64(-70); by <= 70; by++ {
			for _, n := range numbers() {
				checkTwo(t, word, value.Of(n), value.Of(by))
			}
		}
	}
}

func TestNumbersOfAllSizes(t *testing.T) { // P1.1
	seed := uint64(1)
	next := func() api.Value {
		seed = seed*6364136223846793005 + 1442695040888963407
		n := int64(seed)
		seed = seed*6364136223846793005 + 1442695040888963407
		return value.Of(n >> (seed >> 58))
	}
	for i := 0; i < 20000; i++ {
		a, b := next(), next()
		for _, word := range oneWords() {
			checkOne(t, word, a)
		}
		for _, word := range twoWords() {
			checkTwo(t, word, a, b)
		}
	}
}

func FuzzTwo(f *testing.F) { // P1.1
	f.Add("+", int64(1), int64(2), "a", "b")
	f.Fuzz(func(t *testing.T, word string, a, b int64, s, r string) {
		for _, w := range twoWords() {
			checkTwo(t, w, value.Of(a), value.Of(b))
			checkTwo(t, w, value.Text(s), value.Text(r))
			checkTwo(t, w, value.Text(s), value.Of(a))
		}
		if v, e := value.Two(word, value.Of(a), value.Text(r)); e == api.OK || v != unit {
			t.Error("Two", word, a, r, "is", v, e)
		}
	})
}
