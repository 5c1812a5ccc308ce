package calc_test

import (
	"fmt"
	"math"
	"reflect"
	"slices"
	"strings"
	"testing"

	"sacristan/api"
	"sacristan/calc"
	"sacristan/parse"
	"sacristan/tree"
	"sacristan/value"
)

// told is an outcome as a text, so that all of it is held against what is wanted. What has no meaning in it must be zero.
func told(o api.Outcome) string {
	var l []string
	for _, s := range o.Trace {
		l = append(l, "out "+s)
	}
	plain := api.Outcome{State: o.State, Err: o.Err, Trace: o.Trace, Steps: o.Steps}
	switch o.State {
	case api.Done:
		l = append(l, fmt.Sprintf("done %s in %d", o.Text, o.Steps))
		plain.Err, plain.Text = api.OK, o.Text
	case api.Wrong:
		l = append(l, fmt.Sprintf("wrong %d in %d", o.Err, o.Steps))
	case api.Spent:
		l = append(l, fmt.Sprintf("spent %d in %d", o.Err, o.Steps))
	case api.Bad:
		l = append(l, fmt.Sprintf("bad %d", o.Err))
		plain.Trace, plain.Steps = nil, 0
	}
	if !reflect.DeepEqual(o, plain) {
		l = append(l, fmt.Sprintf("and what has no meaning: %+v", o))
	}
	return strings.Join(l, "; ")
}

// read is the node of a source.
func read(t *testing.T, src string) api.Node {
	t.Helper()
	n, at, e := parse.Parse(src)
	if e != api.OK {
		t.Fatalf("Parse(%.300q) = %d at %d", src, e, at)
	}
	return n
}

// brief keeps a failure's line short, whatever a node is.
func brief(n api.Node) string {
	if s, e := tree.Print(n); e == api.OK {
		return fmt.Sprintf("%.600s", s)
	}
	return fmt.Sprintf("kind %d, %d parts", n.Kind, len(n.Kids))
}

// ends holds how a program ends, with as many steps as it takes, and more; and that it is Spent with any less, with the front of what is put out. (P8.1, P8.2)
func ends(t *testing.T, src, want string, inputs ...api.Value) {
	t.Helper()
	n := read(t, src)
	o := calc.Run(n, inputs, math.MaxInt)
	if got := told(o); got != want {
		t.Fatalf("%.600s:\n got %.900s\nwant %.900s", src, got, want)
	}
	if again := told(modelled(n, inputs, math.MaxInt)); again != want {
		t.Fatalf("%.600s:\n the model %.900s\nbut by hand %.900s", src, again, want)
	}
	less(t, n, inputs, o)
}

// less runs a program again with each number of steps up to some more than it takes.
func less(t *testing.T, n api.Node, inputs []api.Value, o api.Outcome) {
	t.Helper()
	for steps := range o.Steps {
		part := calc.Run(n, inputs, steps)
		front := o.Trace[:min(len(part.Trace), len(o.Trace))]
		if want := (api.Outcome{State: api.Spent, Err: api.ErrFuel, Trace: front, Steps: steps}); told(part) != told(want) {
			t.Fatalf("%s, with %d steps of %d:\n got %.900s\nwant %.900s", brief(n), steps, o.Steps, told(part), told(want))
		}
	}
	for more := range 4 {
		if got := told(calc.Run(n, inputs, o.Steps+more)); got != told(o) {
			t.Fatalf("%s, with %d steps more:\n got %.900s\nwant %.900s", brief(n), more, got, told(o))
		}
	}
}

func TestExample(t *testing.T) { // P8.1, the chapter's example
	ends(t, "(handle (+ 1 (perform Ask 5)) (on Ask x k (resume k x)))", "done 6 in 14")
}

func TestLeaves(t *testing.T) { // P8.1
	ends(t, "5", "done 5 in 1")
	ends(t, "-9223372036854775808", "done -9223372036854775808 in 1")
	ends(t, "true", "done true in 1")
	ends(t, "false", "done false in 1")
	ends(t, `"a\n\x00\""`, `done "a\x0a\x00\"" in 1`)
	ends(t, `""`, `done "" in 1`)
	ends(t, "unit", "done () in 1")
	ends(t, "(fun f (x) x)", "done #fun in 1")
}

func TestLet(t *testing.T) { // P8.1
	ends(t, "(let x 5 x)", "done 5 in 4")
	ends(t, "(let x 5 (+ x 1))", "done 6 in 8")
	ends(t, "(let x 1 (let x (+ x 1) (let y x (+ x y))))", "done 4 in 18")
	ends(t, "(let x 1 (do (let x 2 (out x)) x))", "out 2; done 1 in 13")
	ends(t, "(let x (/ 1 0) (out 1))", "wrong 4 in 7")
}

func TestIf(t *testing.T) { // P8.1
	ends(t, "(if true 1 2)", "done 1 in 4")
	ends(t, "(if false 1 2)", "done 2 in 4")
	ends(t, "(if (< 1 2) (out 1) (out 2))", "out 1; done () in 10")
	ends(t, "(if (< 2 1) (out 1) (out 2))", "out 2; done () in 10")
	for _, src := range []string{"0", "1", "unit", `"true"`, "(fun f () true)", "(cell true)", "(pair true true)"} {
		n := read(t, "(if "+src+" (out 1) (out 2))")
		if o := calc.Run(n, nil, 100); o.State != api.Wrong || o.Err != api.ErrTag || len(o.Trace) > 0 {
			t.Errorf("%s: %s, want wrong %d", brief(n), told(o), api.ErrTag)
		}
	}
}

func TestDo(t *testing.T) { // P8.1
	ends(t, "(do 1)", "done 1 in 3")
	ends(t, "(do 1 2 3)", "done 3 in 7")
	ends(t, "(do (out 1) (out 2) (out 3))", "out 1; out 2; out 3; done () in 13")
	ends(t, "(do (out 1) (/ 1 0) (out 3))", "out 1; wrong 4 in 11")
	ends(t, "(do "+strings.Repeat("1 ", 500)+"2)", "done 2 in 1003")
}

func TestCall(t *testing.T) { // P8.1
	ends(t, "(call (fun f () 7))", "done 7 in 4")
	ends(t, "(call (fun f (x) x) 5)", "done 5 in 6")
	ends(t, "(call (fun f (x y z) (- (- x y) z)) 10 2 3)", "done 5 in 18")
	ends(t, "(let f (fun f (n) (if (< n 2) 1 (* n (call f (- n 1))))) (call f 5))", "done 120 in 96")
	// The function and the arguments come one behind the other, and errors of the call behind them all.
	ends(t, "(call (do (out 1) 5) (out 2) (out 3))", "out 1; out 2; out 3; wrong 2 in 17")
	ends(t, "(call (do (out 1) (fun f (x) (out 4))) (out 2) (out 3))", "out 1; out 2; out 3; wrong 6 in 17")
	ends(t, "(call (fun f () 1) 2)", "wrong 6 in 5")
	ends(t, "(call (fun f (x y) 1) 2)", "wrong 6 in 5")
	ends(t, "(call 5)", "wrong 2 in 3")
	for _, src := range []string{"true", `"f"`, "unit", "(pair 1 2)", "(cell (fun f () 1))"} {
		if o := calc.Run(read(t, "(call "+src+")"), nil, 100); o.State != api.Wrong || o.Err != api.ErrTag {
			t.Errorf("(call %s): %s, want wrong %d", src, told(o), api.ErrTag)
		}
	}
	ends(t, "(handle (perform A 1) (on A x k (call k 1)))", "wrong 2 in 9") // a Cont is no Fun
}

// What a name is bound to is told by where the function stands, not by who calls it.
func TestEnvironments(t *testing.T) { // P8.1
	ends(t, "(let x 1 (let f (fun f () x) (let x 2 (call f))))", "done 1 in 13")
	ends(t, "(let mk (fun mk (x) (fun g (y) (pair x y))) (let a (call mk 1) (let b (call mk 2) (pair (call a 3) (call b 4)))))", "done ((1 . 3) . (2 . 4)) in 42")
	ends(t, "(call (fun f (f) f) 5)", "done 5 in 6") // a parameter is bound behind the own name
	ends(t, "(call (fun f (x) (if x (call f false) 1)) true)", "done 1 in 17")
	ends(t, "(let f 1 (do (call (fun f () unit)) f))", "done 1 in 11")
	ends(t, "(let f (fun g () g) (= 1 (let g 1 g)))", "done true in 11")
	ends(t, "(call (fun f (a b c) (pair a (pair b c))) 1 2 3)", "done (1 . (2 . 3)) in 18")
}

// Where a clause is done what the handle's place binds counts, and nothing that is bound within it.
func TestEnvironmentsOfClauses(t *testing.T) { // P8.1
	ends(t, "(let y 1 (handle (let y 2 (perform A y)) (on A x k (pair x y))))", "done (2 . 1) in 15")
	ends(t, "(let y 1 (handle (let y 2 y) (return x (pair x y)) (finally (out y))))", "out 1; done (2 . 1) in 19")
	ends(t, "(let y 1 (handle (let y 2 (perform A y)) (on A x k (let y 3 (resume k 4))) (finally (out y))))", "out 1; done 4 in 24")
	ends(t, "(handle (perform A 1) (on A k x (pair k (resume x 2))))", "done (1 . 2) in 14") // the value, then the Cont
	ends(t, "(let y 1 (wind (out y) (let y 2 (out y)) (out y)))", "out 1; out 2; out 1; done () in 19")
}

func TestPrims(t *testing.T) { // P8.1
	ends(t, "(neg 5)", "done -5 in 3")
	ends(t, "(+ 1 2)", "done 3 in 5")
	ends(t, "(- 1 2)", "done -1 in 5")
	ends(t, `(cat "a" "b")`, `done "ab" in 5`)
	ends(t, `(at "ab" 1)`, "done 98 in 5")
	ends(t, "(+ 1 true)", "wrong 2 in 5")
	ends(t, "(+ 9223372036854775807 1)", "wrong 3 in 5")
	ends(t, "(% 1 0)", "wrong 4 in 5")
	ends(t, "(shl 1 64)", "wrong 5 in 5")
	ends(t, "(not 1)", "wrong 2 in 3")
	ends(t, "(= (pair 1 2) (pair 1 2))", "wrong 2 in 13")
	ends(t, "(pair 1 true)", "done (1 . true) in 5")
	ends(t, "(fst (pair 1 2))", "done 1 in 7")
	ends(t, "(snd (pair 1 2))", "done 2 in 7")
	ends(t, "(cell 1)", "done #cell in 3")
	ends(t, "(get (cell 1))", "done 1 in 5")
	ends(t, "(set (cell 1) 2)", "done () in 7")
	ends(t, "(let c (cell 1) (do (set c (+ (get c) 1)) (let d c (pair (get c) (get d)))))", "done (2 . 2) in 31")
	for _, src := range []string{"(fst 1)", "(fst (cell 1))", "(snd unit)", "(get 1)", "(get (pair 1 2))", "(set 1 2)", "(set (pair 1 2) 2)", "(len 1)", "(get (fun f () 1))"} {
		if o := calc.Run(read(t, src), nil, 100); o.State != api.Wrong || o.Err != api.ErrTag {
			t.Errorf("%s: %s, want wrong %d", src, told(o), api.ErrTag)
		}
	}
}

// Every word of layer 1 comes to what that says.
func TestWordsOfValues(t *testing.T) { // P8.1
	of := map[string]api.Value{"0": value.Of(0), "-7": value.Of(-7), "300": value.Of(300), "true": value.Is(true), `"ab"`: value.Text("ab"), "unit": {}, "9223372036854775807": value.Of(math.MaxInt64)}
	as := func(src string, v api.Value, e api.Errno) {
		t.Helper()
		o := calc.Run(read(t, src), nil, 100)
		want := api.Outcome{State: api.Wrong, Err: e, Steps: o.Steps}
		if e == api.OK {
			want = calc.Run(node(v), nil, 1)
			want.Steps = o.Steps
		}
		if told(o) != told(want) {
			t.Errorf("%s: %s, want %s", src, told(o), told(want))
		}
	}
	for a, v := range of {
		for _, word := range []string{"neg", "not", "len", "i8", "i16", "i32", "u8", "u16", "u32"} {
			got, e := value.One(word, v)
			as("("+word+" "+a+")", got, e)
		}
		for b, w := range of {
			for _, word := range []string{"+", "-", "*", "/", "%", "and", "or", "xor", "shl", "shr", "ushr", "<", "=", "cat", "at"} {
				got, e := value.Two(word, v, w)
				as("("+word+" "+a+" "+b+")", got, e)
			}
		}
	}
}

// node is the node of a value that is none of a place.
func node(v api.Value) api.Node {
	kinds := [...]uint8{api.Unit: api.NodeUnit, api.Int: api.NodeInt, api.Bool: api.NodeBool, api.Str: api.NodeStr}
	return api.Node{Kind: kinds[v.Tag], N: v.N, Text: v.S}
}

func TestOut(t *testing.T) { // P8.1
	ends(t, `(out "a\n")`, `out "a\x0a"; done () in 3`)
	ends(t, "(do (out 1) (out true) (out unit) (out (pair 1 (pair 2 3))) (out (cell 1)) (out (fun f () 1)) 4)",
		"out 1; out true; out (); out (1 . (2 . 3)); out #cell; out #fun; done 4 in 37")
	ends(t, "(handle (perform A 1) (on A x k (out k)))", "out #cont; done () in 7")
	deep := func(levels int) string {
		return strings.Repeat("(pair ", levels) + "1" + strings.Repeat(" 2)", levels)
	}
	shown := func(levels int, inner string) string {
		return strings.Repeat("(", levels) + inner + strings.Repeat(" . 2)", levels)
	}
	ends(t, "(out "+deep(6)+")", "out "+shown(6, "1")+"; done () in 27")
	ends(t, "(out "+deep(7)+")", "out "+shown(6, "..")+"; done () in 31")
	ends(t, deep(7), "done "+shown(6, "..")+" in 29")
	// What is put out is shown as it is then.
	ends(t, "(let c (cell 1) (do (out (get c)) (set c 2) (out (get c))))", "out 1; out 2; done () in 24")
}

func TestIn(t *testing.T) { // P8.1
	ends(t, "(in)", "done 4 in 1", value.Of(4))
	ends(t, "(in)", "wrong 9 in 1")
	ends(t, "(neg (in))", "wrong 9 in 3")
	ends(t, "(pair (in) (pair (in) (in)))", `done ("a" . (() . true)) in 9`, value.Text("a"), api.Value{}, value.Is(true))
	ends(t, "(+ (in) (in))", "wrong 9 in 5", value.Of(4))
	ends(t, "(if false (in) (in))", "done 1 in 4", value.Of(1), value.Of(2))
	ends(t, "5", "done 5 in 1", value.Of(1), value.Of(2)) // what isn't asked for doesn't matter
	ends(t, `(len (in))`, "done 65536 in 3", value.Text(strings.Repeat("x", api.MaxText)))
}

// bad holds why something isn't run at all, whatever the steps.
func bad(t *testing.T, n api.Node, inputs []api.Value, e api.Errno) {
	t.Helper()
	for _, steps := range []int{0, 1, 1000, math.MaxInt, -1, math.MinInt} {
		if got, want := calc.Run(n, inputs, steps), (api.Outcome{State: api.Bad, Err: e}); !reflect.DeepEqual(got, want) {
			t.Fatalf("%s, %.100v, %d steps: %s, want bad %d", brief(n), inputs, steps, told(got), e)
		}
	}
}

func TestNodesThatMayNotBe(t *testing.T) { // P8.1
	five := api.Node{Kind: api.NodeInt, N: 5}
	do := func(kids ...api.Node) api.Node { return api.Node{Kind: api.NodeDo, Kids: kids} }
	deep := five
	for range api.MaxNest {
		deep = do(deep)
	}
	within := do(five, five) // itself within
	within.Kids[0] = within
	for _, n := range []api.Node{
		{}, {Kind: 20}, {Kind: 255}, {Kind: api.NodeInt, Text: "x"}, {Kind: api.NodeBool, N: 2}, {Kind: api.NodeUnit, N: 1}, {Kind: api.NodeVar}, {Kind: api.NodeVar, Text: "true"},
		do(), do(api.Node{}), {Kind: api.NodeLet, Text: "x", Kids: []api.Node{five}}, {Kind: api.NodeIf, Kids: []api.Node{five, five}}, {Kind: api.NodePrim, Text: "none"},
		{Kind: api.NodePrim, Text: "+", Kids: []api.Node{five}}, {Kind: api.NodeCall}, {Kind: api.NodeReturn, Names: []string{"x"}, Kids: []api.Node{five}}, {Kind: api.NodeFinally, Kids: []api.Node{five}},
		{Kind: api.NodeFun, Text: "f", Names: []string{"x", "x"}, Kids: []api.Node{five}}, {Kind: api.NodeHandle}, {Kind: api.NodeHandle, Kids: []api.Node{five, five}},
		{Kind: api.NodeStr, Text: strings.Repeat("a", api.MaxText+1)}, deep, do(slices.Repeat([]api.Node{five}, api.MaxTree)...), within,
	} {
		bad(t, n, nil, api.ErrForm)
		bad(t, do(five, n), nil, api.ErrForm)
		// The node comes ahead of its names, and of the inputs.
		bad(t, do(api.Node{Kind: api.NodeVar, Text: "x"}, n), []api.Value{{Tag: 9}}, api.ErrForm)
	}
	if got := told(calc.Run(deep.Kids[0], nil, 1000)); got != "done 5 in 119" {
		t.Errorf("the deepest node: %s", got)
	}
	if got := told(calc.Run(do(slices.Repeat([]api.Node{five}, api.MaxTree-1)...), nil, 10000)); got != "done 5 in 7999" {
		t.Errorf("the greatest node: %s", got)
	}
}

func TestFreeNames(t *testing.T) { // P8.1
	for _, src := range []string{"x", "(+ x 1)", "(let x x x)", "(do (let x 1 x) x)", "(fun f (y) x)", "(if true 1 x)", "(handle 1 (on A x k y))", "(handle 1 (return x 1) (finally x))", "(handle x (return x x))"} {
		bad(t, read(t, src), nil, api.ErrScope)
		bad(t, read(t, src), []api.Value{{Tag: api.Fun}}, api.ErrScope) // names come ahead of inputs
	}
}

func TestInputsThatAreNone(t *testing.T) { // P8.1
	n := read(t, "5")
	for _, v := range []api.Value{
		{Tag: api.Pair}, {Tag: api.Cell}, {Tag: api.Fun}, {Tag: api.Cont}, {Tag: api.Cont + 1}, {Tag: 255},
		{N: 1}, {S: "x"}, {Tag: api.Int, S: "x"}, {Tag: api.Bool, N: 2}, {Tag: api.Bool, N: -1}, {Tag: api.Str, N: 1, S: "x"}, value.Text(strings.Repeat("x", api.MaxText+1)),
	} {
		bad(t, n, []api.Value{v}, api.ErrArg)
		bad(t, n, []api.Value{value.Of(1), value.Text("x"), v}, api.ErrArg)
		bad(t, n, []api.Value{v, {}}, api.ErrArg)
	}
}

// copied is a node that shares nothing with another one.
func copied(n api.Node) api.Node {
	n.Names, n.Kids = slices.Clone(n.Names), slices.Clone(n.Kids)
	for i := range n.Kids {
		n.Kids[i] = copied(n.Kids[i])
	}
	return n
}

func TestNothingIsChanged(t *testing.T) { // P0.3, P0.5
	n := read(t, "(do (out (in)) (handle (wind (out 1) (do (perform A (in)) (out 2)) (out 3)) (return x (pair x x)) (on A x k (resume k (call (fun f (a b) (pair a b)) x 1))) (finally (out 4))))")
	// Behind the ends of lists stands what nobody may write to.
	n.Kids = append(make([]api.Node, 0, 5), n.Kids...)
	inputs := append(make([]api.Value, 0, 5), value.Text("a"), value.Of(2))
	before, inputsBefore := copied(n), slices.Clone(inputs)
	first := calc.Run(n, inputs, 1000)
	want := told(first)
	again := calc.Run(n, inputs, 1000)
	for i := range first.Trace[:cap(first.Trace)] {
		first.Trace[:cap(first.Trace)][i] = "written"
	}
	if told(again) != want || told(calc.Run(n, inputs, 1000)) != want {
		t.Errorf("answers share memory: %s", told(again))
	}
	if !reflect.DeepEqual(n, before) || !slices.Equal(inputs, inputsBefore) {
		t.Error("what was handed in is changed")
	}
	if !reflect.DeepEqual(n.Kids[:5][2:], make([]api.Node, 3)) || !slices.Equal(inputs[:5][2:], make([]api.Value, 3)) {
		t.Error("the room behind a list's end is changed")
	}
}

func TestNilListsAreEmptyOnes(t *testing.T) { // P0.4
	for _, none := range [][]string{nil, {}} {
		n := api.Node{Kind: api.NodeCall, Names: none, Kids: []api.Node{{Kind: api.NodeFun, Text: "f", Names: none, Kids: []api.Node{{Kind: api.NodeInt, N: 7, Names: none, Kids: []api.Node{}}}}}}
		for _, inputs := range [][]api.Value{nil, {}} {
			if got := told(calc.Run(n, inputs, 9)); got != "done 7 in 4" {
				t.Errorf("%s: %s", brief(n), got)
			}
		}
	}
}
