package heap_test

import (
	"testing"

	"sacristan/api"
	"sacristan/heap"
)

// plain is a heap told as slowly and as plainly as can be: every row of calls is held against it.
type plain struct {
	room   int
	tags   []uint8
	firsts map[int]api.Value
	others map[int]api.Value
	made   map[int]string
}

func newPlain(limit int) *plain {
	return &plain{room: limit, firsts: map[int]api.Value{}, others: map[int]api.Value{}, made: map[int]string{}}
}

func (p *plain) next(tag uint8) (int, api.Value, api.Errno) {
	if len(p.tags) == p.room {
		return -1, api.Value{}, api.ErrHeap
	}
	p.tags = append(p.tags, tag)
	return len(p.tags) - 1, api.Value{Tag: tag, N: int64(len(p.tags) - 1)}, api.OK
}

func (p *plain) knows(v api.Value, tags ...uint8) bool {
	for place, tag := range p.tags {
		for _, t := range tags {
			if t == tag && v == (api.Value{Tag: tag, N: int64(place)}) {
				return true
			}
		}
	}
	return false
}

func (p *plain) get(from map[int]api.Value, v api.Value, tag uint8) (api.Value, api.Errno) {
	if !p.knows(v, tag) {
		return api.Value{}, api.ErrTag
	}
	return from[int(v.N)], api.OK
}

// call is a call's number, and what it is given.
type call struct {
	op   int
	v, w api.Value
}

// both makes a call of a heap and of a plain one, and holds what they answer against each other.
func both(t *testing.T, h *heap.Heap[string], p *plain, c call) {
	t.Helper()
	var got, want api.Value
	var e, f api.Errno
	var s, r string
	place := -1
	switch c.op {
	case 0:
		got, e = h.Pair(c.v, c.w)
		if place, want, f = p.next(api.Pair); place >= 0 {
			p.firsts[place], p.others[place] = c.v, c.w
		}
	case 1:
		got, e = h.Cell(c.v)
		if place, want, f = p.next(api.Cell); place >= 0 {
			p.firsts[place] = c.v
		}
	case 2:
		got, e = h.Make(c.v.Tag, c.w.S)
		if c.v.Tag != api.Fun && c.v.Tag != api.Cont {
			f = api.ErrArg
		} else if place, want, f = p.next(c.v.Tag); place >= 0 {
			p.made[place] = c.w.S
		}
	case 3:
		got, e = h.Fst(c.v)
		want, f = p.get(p.firsts, c.v, api.Pair)
	case 4:
		got, e = h.Snd(c.v)
		want, f = p.get(p.others, c.v, api.Pair)
	case 5:
		got, e = h.Get(c.v)
		want, f = p.get(p.firsts, c.v, api.Cell)
	case 6:
		e = h.Set(c.v, c.w)
		if _, f = p.get(p.firsts, c.v, api.Cell); f == api.OK {
			p.firsts[int(c.v.N)] = c.w
		}
	case 7:
		s, e = h.Thing(c.v)
		if f = api.ErrTag; p.knows(c.v, api.Fun, api.Cont) {
			r, f = p.made[int(c.v.N)], api.OK
		}
	}
	if got != want || e != f || s != r || h.Len() != len(p.tags) {
		t.Fatalf("call %d of %s, %s: %s %.20q, %d, Len %d, want %s %.20q, %d, Len %d", c.op, told(c.v), told(c.w), told(got), s, e, h.Len(), told(want), r, f, len(p.tags))
	}
}

// rows makes every row of as many calls, each on a heap of its own, and asks for all things behind each.
func rows(t *testing.T, calls []call, length int, limit int) {
	t.Helper()
	total := 1
	for range length {
		total *= len(calls)
	}
	for n := range total {
		h, p := heap.New[string](limit), newPlain(limit)
		for left, i := n, 0; i < length; i++ {
			both(t, h, p, calls[left%len(calls)])
			left /= len(calls)
		}
		readAll(t, h, p)
		readAll(t, h, p) // to read takes nothing away
	}
}

// readAll asks for a thing of each Tag at each place, and at the one behind the last.
func readAll(t *testing.T, h *heap.Heap[string], p *plain) {
	t.Helper()
	for place := range int64(h.Len() + 1) {
		for tag := api.Pair; tag <= api.Cont; tag++ {
			for _, op := range []int{3, 4, 5, 7} {
				both(t, h, p, call{op: op, v: at(tag, place)})
			}
		}
	}
}

func TestEveryRowOfCalls(t *testing.T) { // P2.1
	calls := []call{
		{op: 0, v: number(1), w: number(2)}, {op: 0, v: at(api.Pair, 0), w: at(api.Cell, 1)},
		{op: 1, v: text("a")},
		{op: 2, v: at(api.Fun, 0), w: text("f")}, {op: 2, v: at(api.Cont, 0), w: text("k")}, {op: 2, v: at(api.Cell, 0)},
		{op: 6, v: at(api.Cell, 0), w: number(9)}, {op: 6, v: at(api.Cell, 1), w: at(api.Cell, 0)}, {op: 6, v: at(api.Pair, 0)},
	}
	for limit := range 4 {
		rows(t, calls, 4, limit)
	}
}

// parsed is a row of calls out of whatever bytes.
func parsed(row []byte) []call {
	var calls []call
	for ; len(row) >= 5; row = row[5:] {
		c := call{op: int(row[0] % 8), v: api.Value{Tag: row[1] % 9, N: int64(int8(row[2]))}, w: api.Value{Tag: row[3], N: int64(row[4]), S: string(row[3:5])}}
		if row[1] >= 0xf0 {
			c.v.S = "x"
		}
		calls = append(calls, c)
	}
	return calls
}

func FuzzRows(f *testing.F) { // P2.1
	f.Add(3, []byte("\x00\x01\x05\x01\x07\x01\x03\x00\x00\x00\x06\x05\x01\x01\x02\x05\x05\x01\x00\x00\x02\x06\x00\x65\x66\x07\x06\x02\x00\x00"))
	f.Add(2, []byte("\x02\x07\x00\x65\x66\x07\x07\x00\x00\x00\x03\x04\xff\x00\x00\x05\xf7\x00\x00\x00"))
	f.Fuzz(func(t *testing.T, limit int, row []byte) {
		h, p := heap.New[string](limit), newPlain(min(max(limit, 0), api.MaxHeap))
		for _, c := range parsed(row) {
			both(t, h, p, c)
		}
	})
}
