package tree_test

import (
	"fmt"
	"math"
	"slices"
	"strings"
	"testing"

	"sacristan/api"
	"sacristan/tree"
	"sacristan/value"
)

func num(n int64) api.Node   { return api.Node{Kind: api.NodeInt, N: n} }
func str(s string) api.Node  { return api.Node{Kind: api.NodeStr, Text: s} }
func name(s string) api.Node { return api.Node{Kind: api.NodeVar, Text: s} }

// of is a node without names.
func of(kind uint8, text string, kids ...api.Node) api.Node {
	return api.Node{Kind: kind, Text: text, Kids: kids}
}

func fun(own string, names []string, e api.Node) api.Node {
	return api.Node{Kind: api.NodeFun, Text: own, Names: names, Kids: []api.Node{e}}
}

func prim(word string, kids ...api.Node) api.Node { return of(api.NodePrim, word, kids...) }

func ret(x string, e api.Node) api.Node {
	return api.Node{Kind: api.NodeReturn, Names: []string{x}, Kids: []api.Node{e}}
}

func on(op, x, k string, e api.Node) api.Node {
	return api.Node{Kind: api.NodeOn, Text: op, Names: []string{x, k}, Kids: []api.Node{e}}
}

func finally(e api.Node) api.Node { return of(api.NodeFinally, "", e) }

func handle(kids ...api.Node) api.Node { return of(api.NodeHandle, "", kids...) }

var (
	unit = api.Node{Kind: api.NodeUnit}
	yes  = api.Node{Kind: api.NodeBool, N: 1}
	no   = api.Node{Kind: api.NodeBool}
	x    = name("x")
)

// brief keeps a failure's line short, whatever a node is.
func brief(n api.Node) string { return fmt.Sprintf("%.300s", fmt.Sprintf("%+v", n)) }

// told holds a node's text against what it must be.
func told(t *testing.T, n api.Node, want string) {
	t.Helper()
	for range 2 { // P0.5: to tell leaves nothing behind
		if !tree.May(n) {
			t.Fatalf("May(%s) = false, want true", brief(n))
		}
		if got, e := tree.Print(n); e != api.OK || got != want {
			t.Fatalf("Print(%s) = %.200q, %d, want %.200q, 0", brief(n), got, e, want)
		}
	}
}

// wrong holds that a node may not be: there is no text beside the error.
func wrong(t *testing.T, n api.Node) {
	t.Helper()
	for range 2 {
		if tree.May(n) {
			t.Fatalf("May(%s) = true, want false", brief(n))
		}
		if got, e := tree.Print(n); e != api.ErrForm || got != "" {
			t.Fatalf("Print(%s) = %.200q, %d, want none, %d", brief(n), got, e, api.ErrForm)
		}
	}
}

func TestExample(t *testing.T) { // P5.1, the chapter's example
	n := of(api.NodeLet, "x", num(5), prim("+", x, num(1)))
	told(t, n, "(let x 5 (+ x 1))")
	if got := tree.Size(n); got != 5 {
		t.Errorf("Size = %d, want 5", got)
	}
}

func TestTextOfEachKind(t *testing.T) { // P5.1
	for _, c := range []struct {
		n    api.Node
		want string
	}{
		{num(0), "0"}, {num(7), "7"}, {num(-7), "-7"}, {num(math.MaxInt64), "9223372036854775807"}, {num(math.MinInt64), "-9223372036854775808"},
		{no, "false"}, {yes, "true"}, {unit, "unit"}, {x, "x"},
		{str(""), `""`}, {str("a\n\"\\\x00\xff~ "), `"a\x0a\"\\\x00\xff~ "`}, {str("true"), `"true"`}, {str("5"), `"5"`},
		{fun("f", []string{"x", "y"}, x), "(fun f (x y) x)"}, {fun("f", []string{"x"}, x), "(fun f (x) x)"}, {fun("f", nil, unit), "(fun f () unit)"}, {fun("f", []string{"f", "g"}, x), "(fun f (f g) x)"},
		{of(api.NodeCall, "", x), "(call x)"}, {of(api.NodeCall, "", x, num(1), num(2)), "(call x 1 2)"},
		{of(api.NodeLet, "x", unit, x), "(let x unit x)"}, {of(api.NodeIf, "", yes, num(1), num(2)), "(if true 1 2)"},
		{of(api.NodeDo, "", x), "(do x)"}, {of(api.NodeDo, "", num(1), num(2), num(3)), "(do 1 2 3)"},
		{prim("in"), "(in)"}, {prim("out", x), "(out x)"}, {prim("pair", x, unit), "(pair x unit)"}, {prim("<", num(-1), num(1)), "(< -1 1)"},
		{of(api.NodePerform, "Ask", x), "(perform Ask x)"}, {of(api.NodeResume, "", x, num(1)), "(resume x 1)"}, {of(api.NodeDrop, "", x, num(1)), "(drop x 1)"},
		{of(api.NodeWind, "", num(1), num(2), num(3)), "(wind 1 2 3)"},
		{handle(x), "(handle x)"}, {handle(x, ret("y", num(1))), "(handle x (return y 1))"}, {handle(x, finally(num(1))), "(handle x (finally 1))"},
		{handle(x, on("A", "y", "k", num(1)), on("B", "y", "k", num(2))), "(handle x (on A y k 1) (on B y k 2))"},
		{handle(x, ret("y", num(1)), on("A", "y", "k", num(2)), finally(num(3))), "(handle x (return y 1) (on A y k 2) (finally 3))"},
		{handle(handle(x, finally(num(1))), ret("y", handle(num(2), on("A", "x", "y", num(3))))), "(handle (handle x (finally 1)) (return y (handle 2 (on A x y 3))))"},
	} {
		told(t, c.n, c.want)
	}
}

// Words that begin nodes, or are told of a NodePrim, are names as others are.
func TestWordsAsNames(t *testing.T) { // P5.1
	for _, s := range []string{"if", "fun", "handle", "return", "+", "-", "in", "pair", "a-b", "5a", "--5", "-", "'", "\\", "Unit", "TRUE", "falsey", "#", strings.Repeat("n", api.MaxSource)} {
		told(t, name(s), s)
		told(t, of(api.NodeLet, s, x, x), "(let "+s+" x x)")
		told(t, of(api.NodePerform, s, x), "(perform "+s+" x)")
		told(t, fun(s, []string{s, "y"}, x), "(fun "+s+" ("+s+" y) x)")
		told(t, handle(x, ret(s, x), on(s, "y", s, x)), "(handle x (return "+s+" x) (on "+s+" y "+s+" x))")
	}
}

func TestWhatIsNoName(t *testing.T) { // P5.1
	for _, s := range []string{"", "true", "false", "unit", "5", "-5", "007", "99999999999999999999", "a b", " a", "a ", "a\n", "(", "a)", "a;", "\"a\"", "\x00", "a\x7f", "a\x80", "ä", strings.Repeat("n", api.MaxSource+1)} {
		wrong(t, name(s))
		wrong(t, of(api.NodeLet, s, x, x))
		wrong(t, of(api.NodePerform, s, x))
		wrong(t, fun(s, nil, x))
		wrong(t, fun("f", []string{s}, x))
		wrong(t, fun("f", []string{"x", "y", s}, x))
		wrong(t, handle(x, ret(s, x)))
		wrong(t, handle(x, on(s, "x", "y", x)))
		wrong(t, handle(x, on("A", s, "y", x)))
		wrong(t, handle(x, on("A", "x", s, x)))
	}
}

func TestNamesAreUnlike(t *testing.T) { // P5.1
	wrong(t, fun("f", []string{"x", "x"}, x))
	wrong(t, fun("f", []string{"x", "y", "z", "x"}, x))
	wrong(t, handle(x, on("A", "x", "x", x)))
	told(t, handle(x, on("A", "A", "a", x)), "(handle x (on A A a x))")
	many := make([]string, 100000)
	for i := range many {
		many[i] = fmt.Sprint("p", i)
	}
	told(t, fun("f", many, x), "(fun f ("+strings.Join(many, " ")+") x)")
	many[99999] = many[50000]
	wrong(t, fun("f", many, x))
}

// takes are the words of a NodePrim, as the chapters tell them.
func takes() map[string]int {
	told := map[int]string{
		0: "in",
		1: "neg not len i8 i16 i32 u8 u16 u32 fst snd cell get out",
		2: "+ - * / % and or xor shl shr ushr < = cat at pair set",
	}
	l := map[string]int{}
	for parts, words := range told {
		for _, w := range strings.Fields(words) {
			l[w] = parts
		}
	}
	return l
}

func TestTakes(t *testing.T) { // P5.1
	check := func(word string) {
		t.Helper()
		want, ok := takes()[word]
		if !ok {
			want = -1
		}
		if got := tree.Takes(word); got != want {
			t.Fatalf("Takes(%q) = %d, want %d", word, got, want)
		}
		// What is reckoned with is what values are reckoned with.
		if _, e := value.One(word, value.Of(1)); e != api.ErrArg && tree.Takes(word) != 1 {
			t.Fatalf("Takes(%q) = %d, want 1", word, tree.Takes(word))
		}
		if _, e := value.Two(word, value.Of(1), value.Of(1)); e != api.ErrArg && tree.Takes(word) != 2 {
			t.Fatalf("Takes(%q) = %d, want 2", word, tree.Takes(word))
		}
	}
	if len(takes()) != 32 {
		t.Fatalf("%d words, want 32", len(takes()))
	}
	for w := range takes() {
		for _, s := range []string{w, w + " ", " " + w, w + w, strings.ToUpper(w), w[1:], w + "\x00"} {
			check(s)
		}
	}
	for _, w := range []string{"", "if", "let", "do", "call", "fun", "perform", "handle", "resume", "drop", "wind", "return", "on", "finally", "true", "false", "unit", ">", "<=", "==", "!", "i64", "u64", "x", strings.Repeat("in", 100000)} {
		check(w)
	}
	for a := range 256 {
		for b := range 256 {
			check(string([]byte{byte(a), byte(b)}))
		}
		check(string([]byte{byte(a)}))
	}
}

func TestPrimsTakeTheirParts(t *testing.T) { // P5.1
	for w, parts := range takes() {
		for n := range 5 {
			p := prim(w, slices.Repeat([]api.Node{x}, n)...)
			if n == parts {
				told(t, p, "("+w+strings.Repeat(" x", n)+")")
			} else {
				wrong(t, p)
			}
		}
	}
	for n := range 4 { // what isn't a word takes nothing, not even none
		for _, w := range []string{"", "x", "if", "true", "IN"} {
			wrong(t, prim(w, slices.Repeat([]api.Node{x}, n)...))
		}
	}
}

func TestTexts(t *testing.T) { // P5.1
	for c := range 256 {
		want := fmt.Sprintf(`"\x%02x"`, c)
		if c == '"' || c == '\\' {
			want = fmt.Sprintf(`"\%c"`, c)
		} else if c >= 32 && c < 127 {
			want = fmt.Sprintf(`"%c"`, c)
		}
		told(t, str(string([]byte{byte(c)})), want)
	}
	full := strings.Repeat("\xff", api.MaxText)
	told(t, str(full), `"`+strings.Repeat(`\xff`, api.MaxText)+`"`)
	wrong(t, str(full+"a"))
	wrong(t, of(api.NodeDo, "", x, str(full+"a")))
	wrong(t, handle(x, finally(str(full+"a"))))
}

func TestNumbers(t *testing.T) { // P5.1
	for _, n := range []int64{math.MinInt64, math.MinInt64 + 1, -2, -1, 0, 1, 2, math.MaxInt64} {
		told(t, num(n), fmt.Sprint(n))
		b := api.Node{Kind: api.NodeBool, N: n}
		if n == 0 || n == 1 {
			told(t, b, fmt.Sprint(n == 1))
		} else {
			wrong(t, b)
		}
	}
}

// sample is a node of each kind that may be, or that a handle may have.
func sample() []api.Node {
	return []api.Node{
		num(5), yes, str("s"), unit, x, fun("f", []string{"x"}, x), of(api.NodeCall, "", x, x), of(api.NodeLet, "x", x, x),
		of(api.NodeIf, "", x, x, x), of(api.NodeDo, "", x), prim("+", x, x), of(api.NodePerform, "A", x), handle(x, finally(x)),
		of(api.NodeResume, "", x, x), of(api.NodeDrop, "", x, x), of(api.NodeWind, "", x, x, x), ret("x", x), on("A", "x", "k", x), finally(x),
	}
}

// placed is a node where it may stand: a clause in a handle.
func placed(n api.Node) api.Node {
	if n.Kind >= api.NodeReturn && n.Kind <= api.NodeFinally {
		return handle(x, n)
	}
	return n
}

func TestWhatIsNotToldIsZero(t *testing.T) { // P5.1
	for _, n := range sample() {
		if !tree.May(placed(n)) {
			t.Fatalf("May(%s) = false, want true", brief(n))
		}
		if n.Kind != api.NodeInt {
			for _, k := range []int64{-1, 2, math.MinInt64, math.MaxInt64} {
				m := n
				m.N = k
				wrong(t, placed(m))
			}
		}
		if n.Text == "" {
			m := n
			m.Text = "x"
			wrong(t, placed(m))
		}
		if len(n.Names) == 0 {
			m := n
			m.Names = []string{"x"}
			wrong(t, placed(m))
		}
		if len(n.Kids) == 0 {
			m := n
			m.Kids = []api.Node{x}
			wrong(t, placed(m))
		}
	}
}

func TestKindsThatAreNone(t *testing.T) { // P5.1, P0.1
	for kind := range 256 {
		if kind >= int(api.NodeInt) && kind <= int(api.NodeFinally) {
			continue
		}
		for _, n := range sample() {
			n.Kind = uint8(kind)
			wrong(t, n)
			wrong(t, of(api.NodeDo, "", n))
			wrong(t, handle(x, n))
		}
		wrong(t, api.Node{Kind: uint8(kind)})
	}
}

// A clause tells no value, and a node that tells one is no clause.
func TestClausesStandInHandlesAlone(t *testing.T) { // P5.1
	for _, c := range []api.Node{ret("x", x), on("A", "x", "k", x), finally(x)} {
		wrong(t, c)
		wrong(t, handle(c))
		wrong(t, handle(c, c))
		wrong(t, handle(x, finally(c)))
		for _, n := range sample() {
			for i := range n.Kids {
				m := n
				m.Kids = slices.Clone(n.Kids)
				m.Kids[i] = c
				if n.Kind != api.NodeHandle || i == 0 {
					wrong(t, placed(m))
				}
			}
		}
	}
	for _, n := range sample() {
		if n.Kind < api.NodeReturn {
			wrong(t, handle(x, n))
			wrong(t, handle(x, on("A", "x", "k", x), n))
			told(t, handle(n), "(handle "+plainly(n)+")")
		}
	}
	wrong(t, handle())
}

// chain is a node that is so many nodes deep.
func chain(depth int, outer func(n api.Node) api.Node) api.Node {
	n := x
	for range depth - 1 {
		n = outer(n)
	}
	return n
}

func inDo(n api.Node) api.Node { return of(api.NodeDo, "", n) }

func TestHowDeep(t *testing.T) { // P5.1
	told(t, chain(api.MaxNest, inDo), strings.Repeat("(do ", 59)+"x"+strings.Repeat(")", 59))
	for _, outer := range []func(n api.Node) api.Node{
		inDo,
		func(n api.Node) api.Node { return of(api.NodeIf, "", x, x, n) },
		func(n api.Node) api.Node { return of(api.NodeCall, "", n, x) },
		func(n api.Node) api.Node { return fun("f", nil, n) },
		func(n api.Node) api.Node { return handle(n) },
	} {
		for depth := 3; depth < 70; depth++ {
			n := chain(depth, outer)
			if got := tree.May(n); got != (depth <= 60) {
				t.Fatalf("May of a node %d deep = %v", depth, got)
			}
		}
	}
	// A clause is a node, too: a handle and its clause are two.
	for _, inClause := range []func(n api.Node) api.Node{
		func(n api.Node) api.Node { return handle(x, finally(n)) },
		func(n api.Node) api.Node { return handle(x, ret("x", n)) },
		func(n api.Node) api.Node { return handle(x, on("A", "x", "k", n), finally(x)) },
	} {
		for inner := 1; inner <= 4; inner++ {
			n := chain(inner, inDo)
			for range 29 {
				n = inClause(n)
			}
			if got := tree.May(n); got != (58+inner <= 60) {
				t.Fatalf("May of 29 handles around %d nodes = %v", inner, got)
			}
		}
	}
}

func TestHowMany(t *testing.T) { // P5.1
	flat := func(n int) api.Node { return of(api.NodeDo, "", slices.Repeat([]api.Node{x}, n-1)...) }
	told(t, flat(api.MaxTree), "(do"+strings.Repeat(" x", 3999)+")")
	wrong(t, flat(api.MaxTree+1))
	wrong(t, flat(100000))
	told(t, of(api.NodeDo, "", flat(2000), flat(1999)), "(do (do"+strings.Repeat(" x", 1999)+") (do"+strings.Repeat(" x", 1998)+"))")
	wrong(t, of(api.NodeDo, "", flat(2000), flat(2000)))
	// A clause counts.
	clauses := func(n int) api.Node {
		l := []api.Node{x}
		for i := range n {
			l = append(l, on(fmt.Sprint("A", i), "x", "k", x))
		}
		return handle(l...)
	}
	for _, n := range []int{1998, 1999, 2000} {
		m := clauses(n)
		if got := tree.Size(m); got != 2+2*n {
			t.Fatalf("Size of %d clauses = %d", n, got)
		}
		if got := tree.May(m); got != (2+2*n <= 4000) {
			t.Fatalf("May of %d clauses = %v", n, got)
		}
	}
}

func TestSize(t *testing.T) { // P5.1
	for n, want := range map[int]api.Node{1: x, 2: fun("f", []string{"x", "y", "z"}, x), 3: prim("+", x, x), 4: of(api.NodeIf, "", x, x, x), 8: handle(x, ret("x", x), on("A", "x", "k", x), finally(x))} {
		if got := tree.Size(want); got != n {
			t.Errorf("Size(%s) = %d, want %d", brief(want), got, n)
		}
	}
	// Nodes are counted, whether they may be or not.
	if got := tree.Size(api.Node{Kind: 77, Names: []string{"a", "a"}, Kids: []api.Node{{}, {Kind: 200, Kids: []api.Node{{}, ret("x", x)}}, {}}}); got != 7 {
		t.Errorf("Size = %d, want 7", got)
	}
	if got := tree.Size(of(api.NodeDo, "", make([]api.Node, 1000000)...)); got != 1000001 {
		t.Errorf("Size = %d, want 1000001", got)
	}
}

// A node that is 2^16 nodes deep has an answer of each call.
func TestVeryDeep(t *testing.T) { // P5.1, P0.1
	const deep = 1 << 16
	a, b := chain(deep, inDo), chain(deep, inDo)
	if got := tree.Size(a); got != deep {
		t.Errorf("Size = %d, want %d", got, deep)
	}
	wrongly := tree.May(a)
	if s, e := tree.Print(a); wrongly || s != "" || e != api.ErrForm {
		t.Errorf("May = %v, Print = %.40q, %d", wrongly, s, e)
	}
	if !tree.Same(a, b) || tree.Same(a, chain(deep-1, inDo)) {
		t.Error("Same of deep nodes")
	}
}

// A node that has one node in very many places, or itself within, may not be: nobody counts all of it.
func TestOneNodeInManyPlaces(t *testing.T) { // P0.1
	n := x
	for range 59 {
		n = of(api.NodeResume, "", n, n)
	}
	if tree.May(n) {
		t.Error("May of 2^60 nodes = true")
	}
	round := []api.Node{{Kind: api.NodeDo}}
	round[0].Kids = round
	if tree.May(round[0]) {
		t.Error("May of a node within itself = true")
	}
	if s, e := tree.Print(round[0]); s != "" || e != api.ErrForm {
		t.Errorf("Print of a node within itself = %q, %d", s, e)
	}
}
