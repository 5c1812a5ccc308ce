package heap_test

import (
	"fmt"
	"math"
	"strings"
	"testing"

	"sacristan/api"
	"sacristan/heap"
)

var (
	full = strings.Repeat("x", api.MaxText)
	none = api.Value{}
)

func number(n int64) api.Value { return api.Value{Tag: api.Int, N: n} }

func text(s string) api.Value { return api.Value{Tag: api.Str, S: s} }

func at(tag uint8, place int64) api.Value { return api.Value{Tag: tag, N: place} }

// kept are values of all Tags, and some that may not be: a heap keeps whatever it is handed.
func kept() []api.Value {
	return []api.Value{none, number(0), number(-1), number(math.MinInt64), number(math.MaxInt64), {Tag: api.Bool}, {Tag: api.Bool, N: 1}, text(""), text("\x00\xff"), text(full), at(api.Pair, 0), at(api.Cell, 1), at(api.Fun, math.MaxInt64), at(api.Cont, api.MaxHeap), {Tag: 9, N: -4, S: "?"}, text(full + "x")}
}

// told keeps a failure's line short and readable, whatever bytes a value has.
func told(v api.Value) string { return fmt.Sprintf("{%d %d %.20q}", v.Tag, v.N, v.S) }

// must is for the makers: the value that they tell, and no error.
func must(t *testing.T, call string, want, got api.Value, e api.Errno) api.Value {
	t.Helper()
	if got != want || e != api.OK {
		t.Fatalf("%s = %s, %d, want %s, 0", call, told(got), e, told(want))
	}
	return got
}

// refused is for whatever answers a value beside an error: the value is the zero one.
func refused(t *testing.T, call string, want api.Errno, got api.Value, e api.Errno) {
	t.Helper()
	if got != none || e != want {
		t.Fatalf("%s = %s, %d, want the zero value, %d", call, told(got), e, want)
	}
}

// untouched tells that no reader and no Set of a heap takes a value.
func untouched(t *testing.T, h *heap.Heap[string], v api.Value) {
	t.Helper()
	x, e := h.Fst(v)
	refused(t, "Fst("+told(v)+")", api.ErrTag, x, e)
	x, e = h.Snd(v)
	refused(t, "Snd("+told(v)+")", api.ErrTag, x, e)
	x, e = h.Get(v)
	refused(t, "Get("+told(v)+")", api.ErrTag, x, e)
	if e := h.Set(v, number(1)); e != api.ErrTag {
		t.Fatalf("Set(%s, 1) = %d, want ErrTag", told(v), e)
	}
	if s, e := h.Thing(v); s != "" || e != api.ErrTag {
		t.Fatalf("Thing(%s) = %.20q, %d, want nothing, ErrTag", told(v), s, e)
	}
}

func TestPlacesAreInOrder(t *testing.T) { // P2.1
	h := heap.New[string](10)
	for i := int64(0); i < 8; i += 4 {
		v, e := h.Cell(number(i))
		must(t, "Cell", at(api.Cell, i), v, e)
		v, e = h.Pair(number(i), number(-i))
		must(t, "Pair", at(api.Pair, i+1), v, e)
		v, e = h.Make(api.Fun, "f")
		must(t, "Make Fun", at(api.Fun, i+2), v, e)
		v, e = h.Make(api.Cont, "k")
		must(t, "Make Cont", at(api.Cont, i+3), v, e)
		if h.Len() != int(i)+4 {
			t.Fatalf("Len() = %d, want %d", h.Len(), i+4)
		}
	}
}

func TestPairsKeepTheirValues(t *testing.T) { // P2.1
	h := heap.New[string](api.MaxHeap)
	var pairs []api.Value
	for _, a := range kept() {
		for _, b := range kept() {
			v, e := h.Pair(a, b)
			pairs = append(pairs, must(t, "Pair", at(api.Pair, int64(len(pairs))), v, e))
		}
	}
	n := len(kept())
	for i, p := range pairs {
		x, e := h.Fst(p)
		must(t, "Fst", kept()[i/n], x, e)
		x, e = h.Snd(p)
		must(t, "Snd", kept()[i%n], x, e)
	}
}

func TestCellsKeepWhatIsSet(t *testing.T) { // P2.1
	h := heap.New[string](2)
	c, e := h.Cell(number(7))
	must(t, "Cell", at(api.Cell, 0), c, e)
	other, e := h.Cell(text("other"))
	must(t, "Cell", at(api.Cell, 1), other, e)
	x, e := h.Get(c)
	must(t, "Get", number(7), x, e)
	for _, v := range kept() {
		for range 2 { // a full heap's cells are set, too
			if e := h.Set(c, v); e != api.OK {
				t.Fatalf("Set(c, %s) = %d, want OK", told(v), e)
			}
			x, e := h.Get(c)
			must(t, "Get behind Set", v, x, e)
		}
		x, e := h.Get(other)
		must(t, "Get of another cell", text("other"), x, e)
	}
	if h.Len() != 2 {
		t.Errorf("Len() = %d behind Set, want 2", h.Len())
	}
	if e := h.Set(c, c); e != api.OK {
		t.Errorf("Set(c, c) = %d, want OK", e)
	}
	x, e = h.Get(c)
	must(t, "Get of a cell that has itself", c, x, e)
}

func TestMakeTakesFunAndContAlone(t *testing.T) { // P2.1
	closed, free := heap.New[string](0), heap.New[string](api.MaxHeap)
	var missing *heap.Heap[string]
	for tag := range 256 {
		if tag == int(api.Fun) || tag == int(api.Cont) {
			v, e := free.Make(uint8(tag), "x")
			must(t, "Make", at(uint8(tag), int64(free.Len()-1)), v, e)
			continue
		}
		for _, h := range []*heap.Heap[string]{free, closed, missing} { // ErrArg is named ahead of ErrHeap
			v, e := h.Make(uint8(tag), "x")
			refused(t, fmt.Sprint("Make of tag ", tag), api.ErrArg, v, e)
		}
	}
	if free.Len() != 2 || closed.Len() != 0 {
		t.Errorf("Len() = %d and %d behind what was refused, want 2 and 0", free.Len(), closed.Len())
	}
}

func TestThingsAreOfTheirMakersType(t *testing.T) { // P2.1
	type frame struct {
		name string
		held [2]int
	}
	f := frame{"f", [2]int{3, 4}}
	frames := heap.New[frame](1)
	v, _ := frames.Make(api.Fun, f)
	if x, e := frames.Thing(v); x != f || e != api.OK {
		t.Errorf("Thing = %v, %d, want %v, OK", x, e, f)
	}
	if x, e := frames.Thing(at(api.Cont, 0)); x != (frame{}) || e != api.ErrTag {
		t.Errorf("Thing of another Tag = %v, %d, want the zero one, ErrTag", x, e)
	}
	pointers := heap.New[*frame](1)
	v, _ = pointers.Make(api.Cont, &f)
	if x, e := pointers.Thing(v); x != &f || e != api.OK {
		t.Errorf("Thing = %p, %d, want what was handed in", x, e)
	}
	if x, e := pointers.Thing(none); x != nil || e != api.ErrTag {
		t.Errorf("Thing(unit) = %p, %d, want nil, ErrTag", x, e)
	}
	calls := heap.New[func() int](1)
	v, _ = calls.Make(api.Fun, func() int { return 8 })
	if x, e := calls.Thing(v); e != api.OK || x() != 8 {
		t.Errorf("Thing of a function: %d, want what was handed in", e)
	}
	errs := heap.New[error](2)
	v, _ = errs.Make(api.Fun, api.ErrZero)
	if x, e := errs.Thing(v); x != api.ErrZero || e != api.OK {
		t.Errorf("Thing = %v, %d, want what was handed in", x, e)
	}
	v, _ = errs.Make(api.Fun, nil)
	if x, e := errs.Thing(v); x != nil || e != api.OK {
		t.Errorf("Thing = %v, %d, want nil, OK", x, e)
	}
}

func TestLimits(t *testing.T) { // P2.1
	for _, c := range []struct{ limit, room int }{{math.MinInt, 0}, {-1, 0}, {0, 0}, {1, 1}, {2, 2}, {100, 100}, {api.MaxHeap - 1, api.MaxHeap - 1}, {api.MaxHeap, api.MaxHeap}, {api.MaxHeap + 1, api.MaxHeap}, {math.MaxInt, api.MaxHeap}} {
		h := heap.New[struct{}](c.limit)
		if h == nil {
			t.Fatalf("New(%d) = nil", c.limit)
		}
		for i := range c.room {
			if v, e := h.Cell(number(int64(i))); e != api.OK || v != at(api.Cell, int64(i)) {
				t.Fatalf("New(%d): Cell number %d = %s, %d", c.limit, i, told(v), e)
			}
		}
		for range 2 { // that it was full once doesn't make room
			v, e := h.Cell(none)
			refused(t, fmt.Sprintf("New(%d): Cell of a full heap", c.limit), api.ErrHeap, v, e)
			v, e = h.Pair(none, none)
			refused(t, fmt.Sprintf("New(%d): Pair of a full heap", c.limit), api.ErrHeap, v, e)
			v, e = h.Make(api.Fun, struct{}{})
			refused(t, fmt.Sprintf("New(%d): Make of a full heap", c.limit), api.ErrHeap, v, e)
			v, e = h.Make(api.Cont, struct{}{})
			refused(t, fmt.Sprintf("New(%d): Make of a full heap", c.limit), api.ErrHeap, v, e)
		}
		if h.Len() != c.room {
			t.Fatalf("New(%d): Len() = %d, want %d", c.limit, h.Len(), c.room)
		}
		for _, i := range []int{0, c.room / 2, c.room - 1} { // none goes
			if v, e := h.Get(at(api.Cell, int64(i))); c.room > 0 && (v != number(int64(i)) || e != api.OK) {
				t.Fatalf("New(%d): Get of place %d = %s, %d", c.limit, i, told(v), e)
			}
		}
	}
}

func TestNilHeap(t *testing.T) { // P2.1
	var h *heap.Heap[string]
	for _, v := range kept() {
		x, e := h.Pair(v, v)
		refused(t, "nil.Pair", api.ErrHeap, x, e)
		x, e = h.Cell(v)
		refused(t, "nil.Cell", api.ErrHeap, x, e)
		untouched(t, h, v)
	}
	for tag := range 256 {
		untouched(t, h, at(uint8(tag), 0))
	}
	for _, tag := range []uint8{api.Fun, api.Cont} {
		x, e := h.Make(tag, "x")
		refused(t, "nil.Make", api.ErrHeap, x, e)
	}
	if h.Len() != 0 {
		t.Errorf("nil.Len() = %d, want 0", h.Len())
	}
}

// One thing of each Tag, at the places 0 to 3, is held against all Tags and many places.
func TestTagsAndPlacesMustFit(t *testing.T) { // P2.1
	h := heap.New[string](5)
	h.Pair(number(1), number(2))
	h.Cell(number(3))
	h.Make(api.Fun, "fun")
	h.Make(api.Cont, "cont")
	right := []api.Value{at(api.Pair, 0), at(api.Cell, 1), at(api.Fun, 2), at(api.Cont, 3)}
	for tag := range 256 {
		for _, place := range []int64{math.MinInt64, -1 << 32, -2, -1, 0, 1, 2, 3, 4, 5, api.MaxHeap, 1 << 32, 1<<32 + 1, math.MaxInt64} {
			for _, s := range []string{"", "x", "\x00", full + "x"} { // with bytes a place's value may not be
				v := api.Value{Tag: uint8(tag), N: place, S: s}
				if v != right[min(max(place, 0), 3)] {
					untouched(t, h, v)
				}
			}
		}
	}
	crossed(t, h, right)
	if h.Len() != 4 {
		t.Errorf("Len() = %d, want 4", h.Len())
	}
}

// crossed asks every reader for every thing: each takes those of its own Tag alone.
func crossed(t *testing.T, h *heap.Heap[string], right []api.Value) {
	t.Helper()
	readers := map[string]func(api.Value) (api.Value, api.Errno){"Fst": h.Fst, "Snd": h.Snd, "Get": h.Get}
	tags := map[string]uint8{"Fst": api.Pair, "Snd": api.Pair, "Get": api.Cell}
	answers := map[string]api.Value{"Fst": number(1), "Snd": number(2), "Get": number(3)}
	for _, v := range right {
		for name, read := range readers {
			x, e := read(v)
			if v.Tag == tags[name] {
				must(t, name+told(v), answers[name], x, e)
			} else {
				refused(t, name+told(v), api.ErrTag, x, e)
			}
		}
		if e := h.Set(v, number(3)); (e == api.OK) != (v.Tag == api.Cell) || e != api.OK && e != api.ErrTag {
			t.Errorf("Set(%s, 3) = %d", told(v), e)
		}
		want, wantErr := map[uint8]string{api.Fun: "fun", api.Cont: "cont"}[v.Tag], api.OK
		if want == "" {
			wantErr = api.ErrTag
		}
		if s, e := h.Thing(v); s != want || e != wantErr {
			t.Errorf("Thing(%s) = %q, %d, want %q, %d", told(v), s, e, want, wantErr)
		}
	}
}

func TestHeapsAreApart(t *testing.T) { // P2.1, P0.5
	a, b := heap.New[string](2), heap.New[string](2)
	c, _ := a.Cell(number(1))
	untouched(t, b, c)
	d, _ := b.Cell(number(2))
	if c != d {
		t.Fatalf("first cells of two heaps: %s and %s, want one value", told(c), told(d))
	}
	a.Set(c, number(3))
	x, e := b.Get(d)
	must(t, "Get of another heap's cell", number(2), x, e)
}

func TestExample(t *testing.T) { // P2.1, the chapter's example
	h := heap.New[string](1)
	v, e := h.Pair(number(1), number(2))
	must(t, "Pair", at(api.Pair, 0), v, e)
	v, e = h.Pair(number(1), number(2))
	refused(t, "Pair of a full heap", api.ErrHeap, v, e)
}
