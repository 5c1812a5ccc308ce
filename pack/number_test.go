package pack_test

import (
	"bytes"
	"encoding/binary"
	"math"
	"slices"
	"testing"

	"sacristan/api"
)

// withInts is the least module, with numbers.
func withInts(l ...int64) api.Module {
	m := least()
	m.Ints = l
	return m
}

// one are the bytes of the least module with one number, of these bytes.
func one(number ...byte) []byte {
	return slices.Concat([]byte("EFF1\x01"), number, []byte{0, 1, 0, 1, 0, 1, 3, 0, 0})
}

func TestSignedNumbers(t *testing.T) { // P10.1, P10.2
	for _, c := range []struct {
		n     int64
		bytes []byte
	}{
		{0, []byte{0}}, {1, []byte{2}}, {-1, []byte{1}}, {2, []byte{4}}, {-2, []byte{3}},
		{63, []byte{126}}, {-64, []byte{127}}, {64, []byte{0x80, 1}}, {-65, []byte{0x81, 1}}, {-129, []byte{0x81, 2}}, {300, []byte{0xd8, 4}},
		{8191, []byte{0xfe, 0x7f}}, {-8192, []byte{0xff, 0x7f}}, {8192, []byte{0x80, 0x80, 1}}, {-8193, []byte{0x81, 0x80, 1}},
		{1 << 40, []byte{0x80, 0x80, 0x80, 0x80, 0x80, 0x40}},
		{math.MaxInt64, []byte{0xfe, 0xff, 0xff, 0xff, 0xff, 0xff, 0xff, 0xff, 0xff, 1}},
		{math.MinInt64, []byte{0xff, 0xff, 0xff, 0xff, 0xff, 0xff, 0xff, 0xff, 0xff, 1}},
		{math.MinInt64 + 1, []byte{0xfd, 0xff, 0xff, 0xff, 0xff, 0xff, 0xff, 0xff, 0xff, 1}},
		{1 << 62, []byte{0x80, 0x80, 0x80, 0x80, 0x80, 0x80, 0x80, 0x80, 0x80, 1}},
		{1<<62 - 1, []byte{0xfe, 0xff, 0xff, 0xff, 0xff, 0xff, 0xff, 0xff, 0x7f}},
		{-1 << 62, []byte{0xff, 0xff, 0xff, 0xff, 0xff, 0xff, 0xff, 0xff, 0x7f}},
		{-1<<62 - 1, []byte{0x81, 0x80, 0x80, 0x80, 0x80, 0x80, 0x80, 0x80, 0x80, 1}},
	} {
		put(t, withInts(c.n), one(c.bytes...))
	}
	for shift := range 63 {
		for _, n := range []int64{1 << shift, 1<<shift - 1, 1<<shift + 1} {
			for _, x := range []int64{n, -n, ^n} {
				checkModule(t, withInts(x, x-1, x+1))
			}
		}
	}
}

func TestNumbersThatAreNone(t *testing.T) { // P10.1
	for _, l := range [][]byte{
		{0x80}, {0x80, 0x80}, {0x80, 0}, {0xff, 0}, {0x81, 0}, {0x80, 0x80, 0}, {0x80, 1, 0}, {0x82, 0x80, 0},
		{0xff, 0xff, 0xff, 0xff, 0xff, 0xff, 0xff, 0xff, 0xff, 0},
		{0xff, 0xff, 0xff, 0xff, 0xff, 0xff, 0xff, 0xff, 0xff, 2},
		{0xff, 0xff, 0xff, 0xff, 0xff, 0xff, 0xff, 0xff, 0xff, 3},
		{0x80, 0x80, 0x80, 0x80, 0x80, 0x80, 0x80, 0x80, 0x80, 2},
		{0x82, 0x80, 0x80, 0x80, 0x80, 0x80, 0x80, 0x80, 0x80, 0x40},
		{0xff, 0xff, 0xff, 0xff, 0xff, 0xff, 0xff, 0xff, 0xff, 0x7f},
		{0xff, 0xff, 0xff, 0xff, 0xff, 0xff, 0xff, 0xff, 0xff, 0x81, 0},
		{0xff, 0xff, 0xff, 0xff, 0xff, 0xff, 0xff, 0xff, 0xff, 0x81, 1},
		{0x82, 0x80, 0x80, 0x80, 0x80, 0x80, 0x80, 0x80, 0x80, 0x80, 1},
	} {
		refuseGet(t, one(l...), "no number")
	}
	for _, n := range []int{12, 19, 64, 100, 5000, api.MaxPack - 100} { // whatever a shift comes to
		for _, end := range []byte{0, 1, 0x7f, 0x80} {
			refuseGet(t, one(append(bytes.Repeat([]byte{0x80}, n), end)...), "a long number")
			refuseGet(t, one(append(bytes.Repeat([]byte{0xff}, n), end)...), "a long number")
		}
	}
}

// longer are a number's bytes, with so many without a bit behind them.
func longer(n uint64, zeros int) []byte {
	b := binary.AppendUvarint(nil, n)
	for range zeros {
		b[len(b)-1] |= 0x80
		b = append(b, 0)
	}
	return b
}

// over are a number's bytes, as many as ten, of the number and 2^64 or more.
func over(n uint64, more byte) []byte {
	b := binary.LittleEndian.AppendUint64(nil, n)
	var l []byte
	for i := range 9 {
		l = append(l, byte(binary.LittleEndian.Uint64(b)>>(7*i))|0x80)
	}
	return append(l, byte(n>>63)|more)
}

// TestEachNumberTakesAsFewAsMayBe spoils each number of a module, wherever it stands.
func TestEachNumberTakesAsFewAsMayBe(t *testing.T) { // P10.1, P10.2
	for _, m := range []api.Module{least(), sample()} {
		l := parts(m)
		for place, p := range l {
			if !p.number {
				continue
			}
			with := func(b []byte) []byte {
				return slices.Concat(joined(l[:place]), b, joined(l[place+1:]))
			}
			put(t, m, with(longer(p.n, 0)))
			for _, zeros := range []int{1, 2, 8, 9, 10, 11, 70} {
				refuseGet(t, with(longer(p.n, zeros)), "more bytes than there must be")
			}
			for _, more := range []byte{2, 4, 0x40, 0x7e} {
				refuseGet(t, with(over(p.n, more)), "too great")
				refuseGet(t, with(append(over(p.n, 0x80), more/2)), "too great")
			}
		}
	}
}

// TestHugeNumbers has sizes and places that nothing has, at each place.
func TestHugeNumbers(t *testing.T) { // P10.1, P0.1
	for _, m := range []api.Module{least(), sample()} {
		l := parts(m)
		for place, p := range l {
			if !p.number || place > 1 && place < 2+len(m.Ints) { // a number itself may be great
				continue
			}
			for _, huge := range []uint64{1 << 20, 1 << 21, 1<<31 - 1, 1 << 31, 1 << 32, 1<<32 + p.n, 1 << 48, 1<<62 + p.n, 1<<63 - 1, 1 << 63, 1<<63 + p.n, math.MaxUint64} {
				other := slices.Clone(l)
				other[place].n = huge
				refuseGet(t, joined(other), "huge")
				refuseGet(t, joined(other[:place+1]), "huge, at the end")
			}
		}
	}
}
