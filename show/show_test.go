package show_test

import (
	"fmt"
	"math"
	"strconv"
	"strings"
	"testing"

	"sacristan/api"
	"sacristan/heap"
	"sacristan/show"
	"sacristan/value"
)

var (
	unit = api.Value{}
	full = strings.Repeat("x", api.MaxText)
)

func at(tag uint8, place int64) api.Value { return api.Value{Tag: tag, N: place} }

// pair is a new pair of a heap that has room.
func pair(t *testing.T, h *heap.Heap[int], a, b api.Value) api.Value {
	t.Helper()
	v, e := h.Pair(a, b)
	if e != api.OK {
		t.Fatalf("Pair: %v", e)
	}
	return v
}

// shown holds what is shown against what it must be.
func shown(t *testing.T, h show.Pairs, v api.Value, want string) {
	t.Helper()
	for range 2 { // P0.5: to show leaves nothing behind
		if got := show.Show(h, v); got != want {
			t.Fatalf("Show of {%d %d %.20q} = %.200s, want %.200s", v.Tag, v.N, v.S, got, want)
		}
	}
}

func plainValues() map[api.Value]string {
	return map[api.Value]string{
		unit:                        "()",
		value.Is(true):              "true",
		value.Is(false):             "false",
		value.Of(0):                 "0",
		value.Of(7):                 "7",
		value.Of(-1):                "-1",
		value.Of(10):                "10",
		value.Of(1000000):           "1000000",
		value.Of(math.MaxInt32):     "2147483647",
		value.Of(math.MinInt64):     "-9223372036854775808",
		value.Of(math.MaxInt64):     "9223372036854775807",
		value.Text(""):              `""`,
		value.Text("a b"):           `"a b"`,
		value.Text("()"):            `"()"`,
		value.Text(`a"b\c`):         `"a\"b\\c"`,
		value.Text("\n\t\x00"):      `"\x0a\x09\x00"`,
		value.Text("é\xff"):         `"\xc3\xa9\xff"`,
		value.Text(full):            `"` + full + `"`,
		at(api.Cell, 0):             "#cell",
		at(api.Cell, 99):            "#cell",
		at(api.Fun, 0):              "#fun",
		at(api.Fun, api.MaxHeap):    "#fun",
		at(api.Cont, 0):             "#cont",
		at(api.Cont, math.MaxInt64): "#cont",
	}
}

func TestPlainValues(t *testing.T) { // P3.1
	h := heap.New[int](2)
	h.Cell(value.Of(5)) // what is in a cell isn't shown
	for v, want := range plainValues() {
		shown(t, h, v, want)
		shown(t, nil, v, want)
	}
}

func TestManyInts(t *testing.T) { // P3.1
	for shift := range 64 {
		for _, off := range []int64{-1, 0, 1} {
			for _, n := range []int64{1<<shift + off, -1<<shift + off} {
				shown(t, nil, value.Of(n), fmt.Sprint(n))
			}
		}
	}
}

func TestEveryByte(t *testing.T) { // P3.1
	for c := range 256 {
		want := fmt.Sprintf(`\x%02x`, c)
		if c >= 32 && c <= 126 {
			want = string(rune(c))
		}
		switch c {
		case 34:
			want = `\"`
		case 92:
			want = `\\`
		}
		s := string([]byte{byte(c)})
		for _, text := range []string{s, "a" + s + "b", s + s} {
			quoted(t, text, `"`+strings.ReplaceAll(text, s, want)+`"`)
		}
	}
}

func quoted(t *testing.T, text, want string) {
	t.Helper()
	if got := show.Quote(text); got != want {
		t.Fatalf("Quote(%.40q) = %.200s, want %.200s", text, got, want)
	}
	shown(t, nil, value.Text(text), want)
}

func TestQuoteOfLongTexts(t *testing.T) { // P3.1
	quoted(t, full, `"`+full+`"`)
	quoted(t, strings.Repeat("\xfe", api.MaxText), `"`+strings.Repeat(`\xfe`, api.MaxText)+`"`)
	// A text isn't a value: it may be longer than one.
	if got := show.Quote(full + full + "\\"); got != `"`+full+full+`\\"` {
		t.Errorf("Quote of %d bytes has %d", 2*len(full)+1, len(got))
	}
}

// unquoted is the text that was shown, and whether any text would be shown so.
func unquoted(s string) (string, bool) {
	if len(s) < 2 || s[0] != '"' || s[len(s)-1] != '"' {
		return "", false
	}
	var out []byte
	for s = s[1 : len(s)-1]; s != ""; {
		switch {
		case strings.HasPrefix(s, `\"`), strings.HasPrefix(s, `\\`):
			out, s = append(out, s[1]), s[2:]
		case strings.HasPrefix(s, `\x`) && len(s) >= 4 && s[2:4] == strings.ToLower(s[2:4]):
			n, err := strconv.ParseUint(s[2:4], 16, 8)
			if err != nil || n >= 32 && n <= 126 {
				return "", false
			}
			out, s = append(out, byte(n)), s[4:]
		case s[0] == '"' || s[0] == '\\' || s[0] < 32 || s[0] > 126:
			return "", false
		default:
			out, s = append(out, s[0]), s[1:]
		}
	}
	return string(out), true
}

func FuzzQuote(f *testing.F) { // P3.1
	for v := range plainValues() {
		f.Add(v.S)
	}
	f.Fuzz(func(t *testing.T, text string) {
		s := show.Quote(text)
		if back, ok := unquoted(s); !ok || back != text {
			t.Fatalf("Quote(%q) = %s, that is %q, %v", text, s, back, ok)
		}
		shown(t, nil, value.Text(text), s)
	})
}

func TestExample(t *testing.T) { // P3.1, the chapter's example
	h := heap.New[int](1)
	shown(t, h, pair(t, h, value.Of(1), value.Is(true)), "(1 . true)")
}

func TestPairsOfAllValues(t *testing.T) { // P3.1
	h := heap.New[int](api.MaxHeap)
	for a, first := range plainValues() {
		for b, second := range plainValues() {
			shown(t, h, pair(t, h, a, b), "("+first+" . "+second+")")
		}
	}
}

func TestPairsInPairs(t *testing.T) { // P3.1
	h := heap.New[int](10)
	p := pair(t, h, value.Of(1), value.Text("a"))
	q := pair(t, h, unit, p)
	shown(t, h, q, `(() . (1 . "a"))`)
	shown(t, h, pair(t, h, q, p), `((() . (1 . "a")) . (1 . "a"))`)
	shown(t, h, pair(t, h, p, p), `((1 . "a") . (1 . "a"))`)
	c, _ := h.Cell(p)
	shown(t, h, pair(t, h, c, c), "(#cell . #cell)")
	f, _ := h.Make(api.Fun, 3)
	k, _ := h.Make(api.Cont, 4)
	shown(t, h, pair(t, h, f, k), "(#fun . #cont)")
}

// nested is a text of so many pairs, each but the innermost with the next one on a side.
func nested(depth int, inner string, left bool) string {
	for range depth {
		if left {
			inner = "(" + inner + " . 0)"
		} else {
			inner = "(0 . " + inner + ")"
		}
	}
	return inner
}

func TestDepth(t *testing.T) { // P3.1
	for _, left := range []bool{true, false} {
		h := heap.New[int](20)
		v := value.Of(7)
		for depth := range 20 {
			want := nested(depth, "7", left)
			if depth > 6 { // seven deep is one too many, whatever is within
				want = nested(6, "..", left)
			}
			shown(t, h, v, want)
			if left {
				v = pair(t, h, v, value.Of(0))
			} else {
				v = pair(t, h, value.Of(0), v)
			}
		}
	}
}

func TestWhatIsNoPairIsShownHoweverDeep(t *testing.T) { // P3.1
	for v, want := range plainValues() {
		h := heap.New[int](7)
		for range 6 {
			v = pair(t, h, value.Of(0), v)
		}
		shown(t, h, v, nested(6, want, false))
		shown(t, h, pair(t, h, value.Of(0), v), nested(6, "..", false))
	}
}

// Each side has its own depth: a deep first one takes nothing from the second one.
func TestDepthOfBothSides(t *testing.T) { // P3.1
	h := heap.New[int](20)
	v, want := value.Of(1), "1"
	for range 6 {
		v, want = pair(t, h, v, v), "("+want+" . "+want+")"
	}
	shown(t, h, v, want)
	v = pair(t, h, v, v)
	shown(t, h, v, strings.ReplaceAll(want, "1", ".."))
}

func TestPairsThatAreNotThere(t *testing.T) { // P3.1
	var missing *heap.Heap[int]
	h := heap.New[int](3)
	h.Cell(value.Of(1))
	p := pair(t, h, value.Of(1), at(api.Pair, 2))
	for _, place := range []int64{0, 2, 3, 4, api.MaxHeap, 1 << 32, 1<<32 + 1, math.MaxInt64} {
		shown(t, h, at(api.Pair, place), "..")
	}
	for _, place := range []int64{0, 1, math.MaxInt64} {
		shown(t, nil, at(api.Pair, place), "..")
		shown(t, missing, at(api.Pair, place), "..")
		shown(t, heap.New[int](0), at(api.Pair, place), "..")
	}
	shown(t, h, p, "(1 . ..)")
	shown(t, heap.New[int](3), p, "..") // another heap hasn't it
	pair(t, h, unit, unit)
	shown(t, h, p, "(1 . (() . ()))") // it is there by now
}
