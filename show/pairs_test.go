package show_test

import (
	"fmt"
	"math"
	"strings"
	"testing"

	"sacristan/api"
	"sacristan/heap"
	"sacristan/show"
	"sacristan/value"
)

// told is pairs that aren't a heap's: each call is answered by a function, and counted.
type told struct {
	first, second func(v api.Value) (api.Value, api.Errno)
	asked         []string
}

func (p *told) Fst(v api.Value) (api.Value, api.Errno) {
	p.asked = append(p.asked, fmt.Sprint("fst ", v.N))
	return p.first(v)
}

func (p *told) Snd(v api.Value) (api.Value, api.Errno) {
	p.asked = append(p.asked, fmt.Sprint("snd ", v.N))
	return p.second(v)
}

func always(v api.Value, e api.Errno) func(api.Value) (api.Value, api.Errno) {
	return func(api.Value) (api.Value, api.Errno) { return v, e }
}

func TestPairsOfWhateverTellsThem(t *testing.T) { // P3.1
	p := &told{first: always(value.Of(3), api.OK), second: always(value.Text("z"), api.OK)}
	shown(t, p, at(api.Pair, 40), `(3 . "z")`)
	for v, want := range plainValues() { // nobody is asked for what is no pair
		p.asked = nil
		shown(t, p, v, want)
		if len(p.asked) > 0 {
			t.Errorf("asked for %v to show %.40s", p.asked, want)
		}
	}
}

func TestHalfAPairIsNotThere(t *testing.T) { // P3.1
	for e := api.ErrArg; e <= api.ErrCode; e++ {
		for _, v := range []api.Value{unit, value.Of(1)} {
			right, wrong := always(value.Of(1), api.OK), always(v, e)
			shown(t, &told{first: right, second: wrong}, at(api.Pair, 0), "..")
			shown(t, &told{first: wrong, second: right}, at(api.Pair, 0), "..")
			shown(t, &told{first: wrong, second: wrong}, at(api.Pair, 0), "..")
		}
	}
}

// A pair that has itself within ends all the same, and nobody is asked further than is shown.
func TestPairThatHasItself(t *testing.T) { // P3.1, P0.1
	self := always(at(api.Pair, 0), api.OK)
	p := &told{first: self, second: always(unit, api.OK)}
	shown(t, p, at(api.Pair, 0), "((((((.. . ()) . ()) . ()) . ()) . ()) . ())")
	if n := len(p.asked); n != 2*2*api.MaxShow {
		t.Errorf("asked %d times to show it twice, want %d", n, 2*2*api.MaxShow)
	}
	both := ".."
	for range api.MaxShow {
		both = "(" + both + " . " + both + ")"
	}
	shown(t, &told{first: self, second: self}, at(api.Pair, 0), both)
}

// bare has methods that need what a nil pointer hasn't.
type bare struct{ first, second api.Value }

func (b bare) Fst(api.Value) (api.Value, api.Errno) { return b.first, api.OK }

func (b bare) Snd(api.Value) (api.Value, api.Errno) { return b.second, api.OK }

func TestPairsThatPanic(t *testing.T) { // P0.1
	thrown := func(api.Value) (api.Value, api.Errno) { panic("no pair") }
	right := always(value.Of(1), api.OK)
	var missing *bare
	for _, p := range []show.Pairs{missing, struct{ show.Pairs }{}, &told{first: thrown, second: right}, &told{first: right, second: thrown}, &told{}} {
		shown(t, p, at(api.Pair, 0), "..")
		shown(t, p, value.Of(2), "2")
	}
	shown(t, &bare{value.Of(1), value.Of(2)}, at(api.Pair, 0), "(1 . 2)")
	deep := &told{first: right, second: func(v api.Value) (api.Value, api.Errno) {
		if v.N == 2 {
			panic("no pair")
		}
		return at(api.Pair, v.N+1), api.OK
	}}
	shown(t, deep, at(api.Pair, 0), "(1 . (1 . ..))")
}

// Of a value that may not be no text is promised, but an end.
func TestValuesThatMayNotBe(t *testing.T) { // P0.1
	h := heap.New[int](1)
	pair(t, h, value.Of(1), value.Of(2))
	var missing *heap.Heap[int]
	self := &told{first: func(v api.Value) (api.Value, api.Errno) { return v, api.OK }, second: always(api.Value{Tag: 255, N: 255}, api.OK)}
	for tag := range 256 {
		for _, n := range []int64{math.MinInt64, -1, 0, 1, 2, math.MaxInt64} {
			for _, s := range []string{"", "\xff\"", full + "x"} {
				for _, p := range []show.Pairs{h, missing, nil, self} {
					v := api.Value{Tag: uint8(tag), N: n, S: s}
					if a, b := show.Show(p, v), show.Show(p, v); a != b {
						t.Fatalf("Show of {%d %d %.20q} = %.40s, then %.40s", v.Tag, v.N, v.S, a, b)
					}
				}
			}
		}
	}
	shown(t, h, at(api.Pair, -1), "..")
	shown(t, h, api.Value{Tag: api.Pair, S: "x"}, "..")
}

// plainly shows a value of a heap again, by copies of whole texts.
func plainly(h *heap.Heap[int], v api.Value, within int) string {
	switch v.Tag {
	case api.Unit:
		return "()"
	case api.Int:
		return fmt.Sprintf("%d", v.N)
	case api.Bool:
		return fmt.Sprintf("%t", v.N == 1)
	case api.Str:
		var b []string
		for _, c := range []byte(v.S) {
			if c == 34 || c == 92 {
				b = append(b, string([]byte{92, c}))
			} else if c < 32 || c > 126 {
				b = append(b, fmt.Sprintf("\\x%02x", c))
			} else {
				b = append(b, string([]byte{c}))
			}
		}
		return "\"" + strings.Join(b, "") + "\""
	case api.Pair:
		a, e := h.Fst(v)
		b, f := h.Snd(v)
		if within >= 6 || e != api.OK || f != api.OK {
			return ".."
		}
		return fmt.Sprintf("(%s . %s)", plainly(h, a, within+1), plainly(h, b, within+1))
	}
	return map[uint8]string{api.Cell: "#cell", api.Fun: "#fun", api.Cont: "#cont"}[v.Tag]
}

// grown is values out of whatever bytes: each is of a Tag, and pairs are of values that came ahead of them.
func grown(h *heap.Heap[int], row []byte) []api.Value {
	vs := []api.Value{unit}
	for ; len(row) >= 3; row = row[3:] {
		a, b := vs[len(vs)-1-int(row[1])%len(vs)], vs[len(vs)-1-int(row[2])%len(vs)]
		v := at(row[0]%8, int64(row[1]))
		switch v.Tag {
		case api.Unit:
			v, _ = h.Pair(a, b)
		case api.Int:
			v.N = int64(int8(row[1])) << (row[2] % 64)
		case api.Bool:
			v.N %= 2
		case api.Str:
			v = value.Text(string(row[1:]))
		case api.Pair:
			if row[2] < 250 { // else it is of a place where there may be none
				v, _ = h.Pair(a, b)
			}
		}
		vs = append(vs, v)
	}
	return vs
}

func checkGrown(t *testing.T, row []byte) {
	t.Helper()
	h := heap.New[int](api.MaxHeap)
	vs := grown(h, row)
	made := h.Len()
	for _, v := range vs {
		shown(t, h, v, plainly(h, v, 0))
	}
	if h.Len() != made {
		t.Fatalf("Len() = %d behind Show, want %d", h.Len(), made)
	}
}

func TestManyGrownValues(t *testing.T) { // P3.1
	seed := uint64(1)
	for range 300 {
		row := make([]byte, 90)
		for i := range row {
			seed = seed*6364136223846793005 + 1442695040888963407
			row[i] = byte(seed >> 56)
		}
		checkGrown(t, row)
	}
}

func FuzzGrown(f *testing.F) { // P3.1
	f.Add([]byte("\x01\x05\x00\x00\x00\x01\x00\x00\x00\x00\x00\x00\x00\x00\x00\x00\x00\x00\x00\x00\x00\x00\x00\x00\x00\x00\x00"))
	f.Add([]byte("\x03\x22\x5c\x05\x00\x00\x04\x00\x01\x04\x09\xff\x04\x00\x00"))
	f.Fuzz(func(t *testing.T, row []byte) { checkGrown(t, row[:min(len(row), 150)]) })
}
