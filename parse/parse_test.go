package parse_test

import (
	"fmt"
	"math"
	"reflect"
	"slices"
	"strings"
	"testing"

	"sacristan/api"
	"sacristan/parse"
	"sacristan/tree"
)

func num(n int64) api.Node   { return api.Node{Kind: api.NodeInt, N: n} }
func str(s string) api.Node  { return api.Node{Kind: api.NodeStr, Text: s} }
func name(s string) api.Node { return api.Node{Kind: api.NodeVar, Text: s} }

// of is a node without names.
func of(kind uint8, text string, kids ...api.Node) api.Node {
	return api.Node{Kind: kind, Text: text, Kids: kids}
}

// with is a node with one part, and names.
func with(kind uint8, text string, e api.Node, names ...string) api.Node {
	return api.Node{Kind: kind, Text: text, Names: names, Kids: []api.Node{e}}
}

var (
	unit = api.Node{Kind: api.NodeUnit}
	yes  = api.Node{Kind: api.NodeBool, N: 1}
	no   = api.Node{Kind: api.NodeBool}
	x    = name("x")
)

// read holds a source's tree against what it must be.
func read(t *testing.T, src string, want api.Node) {
	t.Helper()
	for range 2 { // P0.5: to read leaves nothing behind
		n, at, e := parse.Parse(src)
		if e != api.OK || at != 0 || !tree.Same(n, want) {
			t.Fatalf("Parse(%.200q) = %.300s, %d, %d, want %.300s, 0, 0", src, fmt.Sprintf("%+v", n), at, e, fmt.Sprintf("%+v", want))
		}
	}
}

// stopped holds the error and the place at which reading can't go on: there is no node beside them.
func stopped(t *testing.T, src string, at int, e api.Errno) {
	t.Helper()
	for range 2 {
		n, place, f := parse.Parse(src)
		if f != e || place != at || !reflect.DeepEqual(n, api.Node{}) {
			t.Fatalf("Parse(%.200q) = %.200s, %d, %d, want none, %d, %d", src, fmt.Sprintf("%+v", n), place, f, at, e)
		}
	}
}

// marked is a source whose wrong token has the sign ^ ahead of it, where it is stopped by ErrForm.
func marked(t *testing.T, src string) {
	t.Helper()
	at := strings.Index(src, "^")
	stopped(t, src[:at]+src[at+1:], at, api.ErrForm)
}

func TestExample(t *testing.T) { // P6.1, the chapter's example
	stopped(t, "(+ 1)", 4, api.ErrForm)
}

// kinds are sources and their nodes, of each kind.
func kinds() map[string]api.Node {
	return map[string]api.Node{
		"5": num(5), "-7": num(-7), "007": num(7), "-0": num(0), "-9223372036854775808": num(math.MinInt64), "9223372036854775807": num(math.MaxInt64),
		"true": yes, "false": no, "unit": unit, "x": x, "+": name("+"), "if": name("if"), "fun": name("fun"), "return": name("return"), "in": name("in"), "-": name("-"),
		`""`: str(""), `"a\"\\\n\x00\xFf;()"`: str("a\"\\\n\x00\xff;()"), "\"\xff\n\"": str("\xff\n"), `"true"`: str("true"),
		"(fun f () x)":                 with(api.NodeFun, "f", x),
		"(fun f (x) 1)":                with(api.NodeFun, "f", num(1), "x"),
		"(fun f (f g x) true)":         with(api.NodeFun, "f", yes, "f", "g", "x"),
		"(call x)":                     of(api.NodeCall, "", x),
		"(call x 1 unit)":              of(api.NodeCall, "", x, num(1), unit),
		"(let x 1 x)":                  of(api.NodeLet, "x", num(1), x),
		"(if true 1 \"a\")":            of(api.NodeIf, "", yes, num(1), str("a")),
		"(do x)":                       of(api.NodeDo, "", x),
		"(do 1 2 3)":                   of(api.NodeDo, "", num(1), num(2), num(3)),
		"(in)":                         of(api.NodePrim, "in"),
		"(neg 1)":                      of(api.NodePrim, "neg", num(1)),
		"(+ 1 2)":                      of(api.NodePrim, "+", num(1), num(2)),
		"(set x 2)":                    of(api.NodePrim, "set", x, num(2)),
		"(perform Ask 5)":              of(api.NodePerform, "Ask", num(5)),
		"(handle 1)":                   of(api.NodeHandle, "", num(1)),
		"(handle 1 (return a x))":      of(api.NodeHandle, "", num(1), with(api.NodeReturn, "", x, "a")),
		"(handle 1 (on A a k 2))":      of(api.NodeHandle, "", num(1), with(api.NodeOn, "A", num(2), "a", "k")),
		"(handle 1 (finally 2))":       of(api.NodeHandle, "", num(1), of(api.NodeFinally, "", num(2))),
		"(handle 1 (on A B A 2))":      of(api.NodeHandle, "", num(1), with(api.NodeOn, "A", num(2), "B", "A")),
		"(resume k 1)":                 of(api.NodeResume, "", name("k"), num(1)),
		"(drop k 1)":                   of(api.NodeDrop, "", name("k"), num(1)),
		"(wind 1 2 3)":                 of(api.NodeWind, "", num(1), num(2), num(3)),
		"(let fun fun (call fun let))": of(api.NodeLet, "fun", name("fun"), of(api.NodeCall, "", name("fun"), name("let"))),
		"(handle 1 (return a x) (on A a k 2) (on B a k 3) (finally 4))": of(api.NodeHandle, "", num(1), with(api.NodeReturn, "", x, "a"),
			with(api.NodeOn, "A", num(2), "a", "k"), with(api.NodeOn, "B", num(3), "a", "k"), of(api.NodeFinally, "", num(4))),
	}
}

func TestEachKind(t *testing.T) { // P6.1
	for src, want := range kinds() {
		read(t, src, want)
		read(t, " ; ( \x00\n\t"+strings.ReplaceAll(src, " ", "\r\n;)\n ")+";", want)
	}
}

// takes are the words of a NodePrim, as the chapters tell them.
func takes() map[string]int {
	told := map[int]string{
		0: "in",
		1: "neg not len i8 i16 i32 u8 u16 u32 fst snd cell get out",
		2: "+ - * / % and or xor shl shr ushr < = cat at pair set",
	}
	l := map[string]int{}
	for parts, words := range told {
		for _, w := range strings.Fields(words) {
			l[w] = parts
		}
	}
	return l
}

func TestWordsTakeTheirParts(t *testing.T) { // P6.1
	for word, parts := range takes() {
		for got := range 5 {
			src := "(" + word + strings.Repeat(" x", got) + ")"
			switch {
			case got == parts:
				read(t, src, of(api.NodePrim, word, slices.Repeat([]api.Node{x}, parts)...))
			case got < parts: // the closing bracket comes too soon
				stopped(t, src, len(src)-1, api.ErrForm)
			default: // where it ought to stand is another part
				stopped(t, src, len(word)+2+2*parts, api.ErrForm)
			}
		}
	}
}

func TestWordsThatTellNothing(t *testing.T) { // P6.1
	for _, word := range []string{"x", "weird", "true", "false", "unit", "return", "on", "finally", "Fun", "FUN", "fun'", "ifs", "i64", "++", "5", "-1", `"fun"`, `"+"`, "(", ")", "(do x)"} {
		stopped(t, "("+word+" 1 2)", 1, api.ErrForm)
		stopped(t, "(do x ("+word+" 1 2))", 7, api.ErrForm)
		if word != "return" && word != "on" && word != "finally" {
			stopped(t, "(handle x ("+word+" 1 2))", 11, api.ErrForm)
		}
	}
	for _, word := range []string{"fun", "call", "let", "if", "do", "perform", "handle", "resume", "drop", "wind", "in", "+"} { // a node is no clause
		stopped(t, "(handle x ("+word+" x x x))", 11, api.ErrForm)
	}
}

func TestWhatIsNoName(t *testing.T) { // P6.1
	for _, s := range []string{"5", "-1", `"x"`, `""`, "true", "false", "unit", "(", ")"} {
		for _, ahead := range []string{"(fun ", "(fun f (", "(fun f (x ", "(let ", "(perform ", "(handle 1 (return ", "(handle 1 (on ", "(handle 1 (on A ", "(handle 1 (on A x ", "(handle 1 (return x x) (on A x k x) (on "} {
			if s == ")" && strings.HasPrefix(ahead, "(fun f (") { // it ends the parameters
				continue
			}
			marked(t, ahead+"^"+s+" x x x)")
		}
	}
}

func TestPartsThatAreWrong(t *testing.T) { // P6.1
	for _, src := range []string{
		"^)", "(^)", "(^(", "(fun^)", "(fun f^)", "(fun f ^x x)", "(fun f ^5 x)", "(fun f ()^)", "(fun f () x ^x)", "(fun f () x ^(x))", "(fun f (^(x)) x)", "(fun f (x ^5) x)",
		"(call^)", "(handle (^return x x))", "(handle (^finally x))", "(let^)", "(let x^)", "(let x 1^)", "(let x 1 2 ^3)", "(let ^(x) 1 2)", "(if^)", "(if 1^)", "(if 1 2^)", "(if 1 2 3 ^4)", "(do^)", "(do (do^))",
		"(perform^)", "(perform A^)", "(perform A 1 ^2)", "(handle^)", "(handle 1 ^2)", "(handle 1 ^x)", "(handle 1 ^\"a\")", "(handle 1 (^))", "(handle 1 (^(return x x)))",
		"(resume^)", "(resume k^)", "(resume k 1 ^2)", "(drop^)", "(drop k^)", "(drop k 1 ^2)", "(wind^)", "(wind 1^)", "(wind 1 2^)", "(wind 1 2 3 ^4)",
		"(handle 1 (return^))", "(handle 1 (return x^))", "(handle 1 (return x 1 ^2))", "(handle 1 (return ^(x) 1))", "(handle 1 (on^))", "(handle 1 (on A^))", "(handle 1 (on A x^))", "(handle 1 (on A x k^))", "(handle 1 (on A x k 1 ^2))", "(handle 1 (on A x ^1))", "(handle 1 (finally^))", "(handle 1 (finally 1 ^2))",
		"(handle 1 (finally 1) ^2)", "(in ^1)", "(in ^(in))", "(out (in) ^(in))",
	} {
		marked(t, src)
	}
}

func TestNamesAreUnlike(t *testing.T) { // P6.1
	for _, src := range []string{
		"(fun f (x ^x) 1)", "(fun f (x y ^x) 1)", "(fun f (x y ^y z z) 1)", "(fun f (f ^f) 1)", "(fun f (x ^x",
		"(handle 1 (on A x ^x 1))", "(handle 1 (on A x k 1) (on ^A x k 1))", "(handle 1 (return A A) (on A A B 1) (on B A B 2) (on ^A A B 3))", "(handle 1 (on A x k 1) (on B x k 1) (on ^B",
	} {
		marked(t, src)
	}
	// What binds elsewhere is no matter.
	for _, src := range []string{
		"(fun f (x) (fun f (x) x))", "(let x 1 (let x 2 x))", "(fun f (f) f)", "(handle (handle 1 (on A x k 1)) (on A x k 1))",
		"(handle 1 (on A x k (handle 1 (on A x k 1))) (on B x k 1))", "(handle 1 (on A A k 1) (on B A k 1))", "(handle 1 (return x 1) (on x x y 1))",
		"(do (handle 1 (on A x k 1)) (handle 1 (on A x k 1)))",
	} {
		back(t, src)
	}
	var many []string
	for i := range 8000 {
		many = append(many, fmt.Sprint("p", i))
	}
	row := strings.Join(many, " ")
	read(t, "(fun f ("+row+") x)", with(api.NodeFun, "f", x, many...))
	marked(t, "(fun f ("+row+" ^p4000) x)")
}

// back holds that a source is parsed as the node that has it as its text.
func back(t *testing.T, src string) {
	t.Helper()
	n, at, e := parse.Parse(src)
	if s, f := tree.Print(n); e != api.OK || at != 0 || f != api.OK || s != src {
		t.Fatalf("Parse(%.200q) = %d, %d, printed %.200q, %d", src, at, e, s, f)
	}
}

func TestClausesInTheirOrder(t *testing.T) { // P6.1
	for _, src := range []string{
		"(handle 1 (finally 1) (^return x x))", "(handle 1 (finally 1) (^on A x k x))", "(handle 1 (finally 1) (^finally 1))", "(handle 1 (on A x k 1) (^return x x))",
		"(handle 1 (return x x) (^return x x))", "(handle 1 (return x x) (on A x k 1) (^return x x))", "(handle 1 (return x x) (finally 1) (^return", "(handle 1 (finally 1) (^x))", "(handle 1 (finally 1) (^))", "(handle 1 (on A x k 1) (finally 1) (^on A",
	} {
		marked(t, src)
	}
	for _, clauses := range []string{"", " (return x x)", " (on A x k x)", " (return x x) (on A x k x)", " (on A x k x) (on B x k x) (on C x k x)", " (return x x) (finally x)", " (on A x k x) (finally x)", " (finally (handle 1 (return x x) (finally 1)))"} {
		back(t, "(handle (in)"+clauses+")")
	}
	stopped(t, "(handle 1 (finally 1) (", 23, api.ErrShort) // a bracket begins a node, whatever stands behind it
}

func TestBehindAWholeNode(t *testing.T) { // P6.1
	for _, src := range []string{"1 ^2", "x ^)", "(in) ^(", "(in)^)", "\"a\"^\"b\"", "unit ^unit", "true;\n ^\"\"", "(do 1)^x y z ) (", "(+ 1 2)^)", "5^(in)"} {
		marked(t, src)
	}
}

func TestWhatIsMissing(t *testing.T) { // P6.1
	for _, src := range []string{"", " ", "; 5", "\n\t\r", "(", "(do", "(do 1", "(do 1 ; 2)", "(+ 1", "(+ 1 2", "(+ 1 2  \n", "(fun", "(fun f", "(fun f (", "(fun f (x", "(fun f (x)", "(fun f (x) 1", "(in", "(call x (in)", "(handle", "(handle 1", "(handle 1 (", "(handle 1 (return x", "(handle 1 (on A x k 1", "(handle 1 (finally 1) ;", "(let x (in"} {
		stopped(t, src, len(src), api.ErrShort)
	}
}

// The tokens' error is told, whatever would be wrong ahead of it.
func TestErrorsOfTokens(t *testing.T) { // P6.1
	stopped(t, "\"x", 2, api.ErrShort)
	stopped(t, ") ) \x00", 4, api.ErrLex)
	stopped(t, "1 2 (x \"\\q\"", 9, api.ErrLex)
	stopped(t, "(weird 9223372036854775808", 7, api.ErrLex)
	stopped(t, ") \"", 3, api.ErrShort)
	stopped(t, "é", 0, api.ErrLex)
	stopped(t, strings.Repeat("(do ", 70)+"\x7f", 280, api.ErrLex)
	stopped(t, strings.Repeat(" ", api.MaxSource+1), api.MaxSource, api.ErrLong)
	stopped(t, ")"+strings.Repeat("\x00", api.MaxSource), api.MaxSource, api.ErrLong)
	stopped(t, strings.Repeat(" ", api.MaxSource), api.MaxSource, api.ErrShort)
	read(t, strings.Repeat(" ", api.MaxSource-1)+"x", x)
	long := strings.Repeat("x", api.MaxSource)
	read(t, long, name(long))
	read(t, `"`+long[2:]+`"`, str(long[2:]))
}

// TestAnswersAreApart writes into all lists of an answer, and the room behind them: neither another answer nor another list of that one is changed.
func TestAnswersAreApart(t *testing.T) { // P0.3
	src := "(handle (do 1 2 3) (return x x) (on A x k (fun f (a b c) (call f 1 2))) (on B x k (if 1 2 3)) (finally (in)))"
	n, _, _ := parse.Parse(src)
	m, _, _ := parse.Parse(src)
	var lists func(n *api.Node) []*api.Node
	lists = func(n *api.Node) []*api.Node {
		l := []*api.Node{n}
		for i := range n.Kids {
			l = append(l, lists(&n.Kids[i])...)
		}
		return l
	}
	for _, part := range lists(&n) {
		for range 9 {
			_ = append(part.Kids, unit)
			_ = append(part.Names, "?")
		}
		if s, e := tree.Print(n); e != api.OK || s != src {
			t.Fatalf("behind a list's end there is another one: %q, %d", s, e)
		}
	}
	for _, part := range lists(&n) {
		for i := range part.Names {
			part.Names[i] = "?"
		}
		part.Kind, part.Text, part.N = 99, "?", 77
	}
	if s, e := tree.Print(m); e != api.OK || s != src {
		t.Fatalf("an answer is %q, %d behind a write into another one", s, e)
	}
	back(t, src)
}
