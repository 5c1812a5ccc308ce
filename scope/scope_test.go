package scope_test

import (
	"fmt"
	"reflect"
	"slices"
	"strconv"
	"strings"
	"testing"

	"sacristan/api"
	"sacristan/parse"
	"sacristan/scope"
	"sacristan/tree"
)

func name(s string) api.Node { return api.Node{Kind: api.NodeVar, Text: s} }

// of is a node without names.
func of(kind uint8, text string, kids ...api.Node) api.Node {
	return api.Node{Kind: kind, Text: text, Kids: kids}
}

func do(kids ...api.Node) api.Node { return of(api.NodeDo, "", kids...) }

func let(s string, a, e api.Node) api.Node { return of(api.NodeLet, s, a, e) }

func fun(own string, names []string, e api.Node) api.Node {
	return api.Node{Kind: api.NodeFun, Text: own, Names: names, Kids: []api.Node{e}}
}

func handle(kids ...api.Node) api.Node { return of(api.NodeHandle, "", kids...) }

func ret(x string, e api.Node) api.Node {
	return api.Node{Kind: api.NodeReturn, Names: []string{x}, Kids: []api.Node{e}}
}

func on(op, x, k string, e api.Node) api.Node {
	return api.Node{Kind: api.NodeOn, Text: op, Names: []string{x, k}, Kids: []api.Node{e}}
}

func finally(e api.Node) api.Node { return of(api.NodeFinally, "", e) }

var (
	unit = api.Node{Kind: api.NodeUnit}
	x    = name("x")
)

// brief keeps a failure's line short, whatever a node is.
func brief(n api.Node) string {
	if s, e := tree.Print(n); e == api.OK {
		return fmt.Sprintf("%.300s", s)
	}
	return fmt.Sprintf("kind %d, %d parts", n.Kind, len(n.Kids))
}

// has holds that a node that may be has these free names, and that the first one is told.
func has(t *testing.T, n api.Node, want ...string) {
	t.Helper()
	first, errno := "", api.OK
	if len(want) > 0 {
		first, errno = want[0], api.ErrScope
	}
	for range 2 { // P0.5: to tell leaves nothing behind
		if got := scope.Free(n); !slices.Equal(got, want) {
			t.Fatalf("Free(%s) = %.300q, want %.300q", brief(n), got, want)
		}
		if s, e := scope.Check(n); s != first || e != errno {
			t.Fatalf("Check(%s) = %.300q, %d, want %.300q, %d", brief(n), s, e, first, errno)
		}
	}
}

// wrong holds that of a node that may not be nothing is told.
func wrong(t *testing.T, n api.Node) {
	t.Helper()
	if got := scope.Free(n); len(got) != 0 {
		t.Fatalf("Free(%s) = %.300q, want none", brief(n), got)
	}
	if s, e := scope.Check(n); s != "" || e != api.ErrForm {
		t.Fatalf("Check(%s) = %.300q, %d, want none, %d", brief(n), s, e, api.ErrForm)
	}
}

// read is the node of a source.
func read(t *testing.T, src string) api.Node {
	t.Helper()
	n, at, e := parse.Parse(src)
	if e != api.OK {
		t.Fatalf("Parse(%.300q) = %d at %d", src, e, at)
	}
	return n
}

// free holds the free names of a source, told with blanks between them.
func free(t *testing.T, src, want string) {
	t.Helper()
	has(t, read(t, src), strings.Fields(want)...)
}

func TestExample(t *testing.T) { // P7.1, the chapter's example
	free(t, "(let x x x)", "x")
	free(t, "(let x 1 x)", "")
	free(t, "(let x x 1)", "x")
	free(t, "(let y x x)", "x")
}

// Where a node binds nothing all its parts are as they would be alone, in their order.
func TestKindsThatBindNothing(t *testing.T) { // P7.1
	for _, src := range []string{"5", "-5", "0", "true", "false", "unit", `""`, `"x"`, "(in)"} {
		free(t, src, "")
	}
	free(t, "x", "x")
	free(t, "(call a)", "a")
	free(t, "(call a b c)", "a b c")
	free(t, "(if a b c)", "a b c")
	free(t, "(do a)", "a")
	free(t, "(do a b c d)", "a b c d")
	free(t, "(neg a)", "a")
	free(t, "(+ b a)", "b a")
	free(t, "(set c v)", "c v")
	free(t, "(perform Ask a)", "a") // an operation is no name of a value
	free(t, "(handle a)", "a")
	free(t, "(handle a (finally b))", "a b")
	free(t, "(resume b a)", "b a")
	free(t, "(drop b a)", "b a")
	free(t, "(wind c b a)", "c b a")
}

func TestFun(t *testing.T) { // P7.1
	free(t, "(fun f () f)", "")
	free(t, "(fun f () x)", "x")
	free(t, "(fun f (x) x)", "")
	free(t, "(fun f (x y z) (do z y x f w))", "w")
	free(t, "(fun f (x) (fun x () (do f x)))", "")
	free(t, "(do (fun f (x) 1) f x)", "f x")
	free(t, "(do f x (fun f (x) (do x f)))", "f x")
	// Its own name may be one of its parameters.
	free(t, "(fun f (f) f)", "")
	free(t, "(fun f (a f b) (do b f a))", "")
	free(t, "(do (fun f (f) f) f)", "f")
	free(t, "(fun f () (do (fun f (f) f) f))", "")
	free(t, "(let f 1 (do (fun f (f) f) f))", "")
}

func TestLet(t *testing.T) { // P7.1
	free(t, "(let x 1 (let y 2 (+ x y)))", "")
	free(t, "(let x y (let y x (+ x y)))", "y")
	free(t, "(let x (let x x x) x)", "x")
	free(t, "(let x 1 (let x x x))", "")
	free(t, "(do (let x 1 x) x)", "x")
	free(t, "(do x (let x 1 x))", "x")
	free(t, "(let x 1 (do (let x 2 x) x))", "")
	free(t, "(let f (fun g () f) f)", "f")
}

func TestClauses(t *testing.T) { // P7.1
	free(t, "(handle 1 (return x x))", "")
	free(t, "(handle x (return x x))", "x")
	free(t, "(handle 1 (return x y))", "y")
	free(t, "(handle 1 (on A x k (resume k x)))", "")
	free(t, "(handle 1 (on A x k (do k x A)))", "A") // the operation is no name
	free(t, "(handle (do x k) (on A x k (do k x)))", "x k")
	free(t, "(handle 1 (return x k) (on A x k y) (on B y k x))", "k y x")
	free(t, "(handle 1 (return x x) (finally x))", "x")
	free(t, "(handle 1 (on A x k x) (finally (do k x)))", "k x")
	free(t, "(handle 1 (on A x k (handle x (return k k) (finally (do x k)))))", "")
	free(t, "(do (handle 1 (return x x) (on A y z y)) z y x)", "z y x")
	free(t, "(handle a (return x x) (on Ask x k (resume k b)) (finally x))", "a b x")
}

func TestEachNameOnce(t *testing.T) { // P7.1
	free(t, "(do x x x)", "x")
	free(t, "(do x y x y)", "x y")
	free(t, "(do y x y)", "y x")
	free(t, "(do x (let x x x) x (fun x (x) x) x)", "x")
	free(t, "(let y x (do x y (let x y x) x y))", "x")
	// Where a name is bound doesn't count for the order.
	free(t, "(do (let x 1 x) y x)", "y x")
	free(t, "(let b 1 (do (fun a () a) c b a))", "c a")
	free(t, "(handle (fun z (y) (do y z)) (return y z) (finally y))", "z y")
}

// Words that begin nodes, or are told of some, are names as others are; case and length count.
func TestWordsAsNames(t *testing.T) { // P7.1
	free(t, "(do if fun let + in X x)", "if fun let + in X x")
	free(t, "(let if 1 (if if fun if))", "fun")
	free(t, "(fun fun (let) (let in let (+ in fun)))", "")
	free(t, "(handle on (return return (do return on)) (on on k x (do k x on)) (finally finally))", "on finally")
	long := strings.Repeat("n", 20000)
	free(t, "(let "+long+" 1 (do "+long+" "+long[1:]+"))", long[1:])
	has(t, name(strings.Repeat("n", api.MaxSource)), strings.Repeat("n", api.MaxSource))
}

// A text isn't a name, whatever stands in it.
func TestTextsAreNoNames(t *testing.T) { // P7.1
	free(t, `(do "x" "y" x)`, "x")
	free(t, `(let x "x" (cat x "(y)"))`, "")
}

func TestManyParameters(t *testing.T) { // P7.1
	var names []string
	var uses []api.Node
	for i := range 3000 {
		names = append(names, "p"+strconv.Itoa(i))
		uses = append(uses, name(names[i]))
	}
	slices.Reverse(uses)
	has(t, fun("f", names, do(uses...)))
	has(t, fun("f", names[1:], do(uses...)), "p0")
	has(t, do(fun("f", names, unit), do(uses[:2]...)), "p2999", "p2998")
	slices.Reverse(uses)
	has(t, do(uses...), names...)
	many := slices.Repeat([]string{""}, 100000)
	for i := range many {
		many[i] = "p" + strconv.Itoa(i)
	}
	has(t, fun("f", many, do(name("p99999"), name("p100000"), name("f"))), "p100000")
}

// TestDeepest binds names in each of as many nodes as may stand in one another.
func TestDeepest(t *testing.T) { // P7.1
	deep := func(levels int, inner api.Node, outer func(i int, e api.Node) api.Node) api.Node {
		for i := range levels {
			inner = outer(i, inner)
		}
		return inner
	}
	same := func(_ int, e api.Node) api.Node { return let("x", unit, e) }
	has(t, deep(59, x, same))
	has(t, deep(59, name("y"), same), "y")
	has(t, do(deep(58, x, same), x), "x")
	wrong(t, deep(60, x, same))
	// Each takes its value from the name of the one around it: the outermost one's is free.
	chain := func(i int, e api.Node) api.Node { return let(fmt.Sprint("v", i), name(fmt.Sprint("v", i+1)), e) }
	has(t, deep(59, name("v0"), chain), "v59")
	has(t, deep(59, name("v58"), func(i int, e api.Node) api.Node { return fun(fmt.Sprint("v", i), nil, e) }))
	has(t, deep(29, do(x), func(i int, e api.Node) api.Node { return handle(x, ret("x", e)) }), "x")
	has(t, deep(29, do(x), func(i int, e api.Node) api.Node { return handle(unit, on("A", "k", "x", e)) }))
	wrong(t, deep(30, x, func(i int, e api.Node) api.Node { return handle(x, ret("x", e)) }))
}

// TestGreatest has as many nodes as may be, and one more.
func TestGreatest(t *testing.T) { // P7.1
	var names []string
	var uses []api.Node
	for i := range 4000 {
		names = append(names, "v"+strconv.Itoa(i))
		uses = append(uses, name(names[i]))
	}
	has(t, do(uses[:3999]...), names[:3999]...)
	wrong(t, do(uses...))
	has(t, do(slices.Repeat([]api.Node{x}, 3999)...), "x")
	wrong(t, do(slices.Repeat([]api.Node{x}, 4000)...))
	has(t, let("x", unit, do(slices.Repeat([]api.Node{x}, 3997)...)))
	wrong(t, let("x", unit, do(slices.Repeat([]api.Node{x}, 3998)...)))
}

// A node that may not be has no free names, whatever stands in it: that is told ahead of a name that isn't bound.
func TestWhatMayNotBe(t *testing.T) { // P7.1, P0.1, P0.2
	for kind := range 256 {
		wrong(t, api.Node{Kind: uint8(kind), N: 7, Text: "x", Names: []string{"x", "x"}, Kids: []api.Node{x}})
		if k := uint8(kind); k < api.NodeInt || k > api.NodeWind {
			wrong(t, of(k, ""))
			wrong(t, of(k, "", x))
			wrong(t, do(x, of(k, "", x)))
		}
	}
	for _, n := range []api.Node{
		{}, of(api.NodeVar, ""), name("true"), name("5"), name("a b"), do(), do(x, name("unit")),
		of(api.NodeVar, "x", x), {Kind: api.NodeVar, Text: "x", N: 1}, {Kind: api.NodeVar, Text: "x", Names: []string{"x"}},
		ret("x", x), on("A", "x", "k", x), finally(x), do(finally(x)), let("x", x, ret("x", x)),
		of(api.NodeLet, "x"), of(api.NodeLet, "x", x), of(api.NodeLet, "x", x, x, x), let("", x, x), let("5", x, x),
		of(api.NodeFun, "f"), of(api.NodeFun, "f", x, x), fun("", nil, x), fun("f", []string{"x", "x"}, x), fun("f", []string{""}, x),
		handle(), handle(x, x), handle(x, ret("x", x), ret("x", x)), handle(x, finally(x), ret("x", x)), handle(ret("x", x)),
		handle(x, on("A", "x", "x", x)), handle(x, on("A", "x", "k", x), on("A", "x", "k", x)),
		handle(x, of(api.NodeReturn, "", x)), handle(x, of(api.NodeOn, "A", x)), handle(x, api.Node{Kind: api.NodeReturn, Names: []string{"x"}}),
		handle(x, api.Node{Kind: api.NodeOn, Text: "A", Names: []string{"x", "k"}}), handle(x, of(api.NodeFinally, "")),
		of(api.NodePrim, "+", x), of(api.NodePrim, "none"), of(api.NodePerform, "A"), of(api.NodeIf, "", x, x), of(api.NodeStr, strings.Repeat("a", api.MaxText+1)),
		do(x, of(api.NodeStr, strings.Repeat("a", api.MaxText+1))), name(strings.Repeat("n", api.MaxSource+1)),
	} {
		wrong(t, n)
		wrong(t, do(x, n, x))
	}
	within := api.Node{Kind: api.NodeDo, Kids: make([]api.Node, 2)} // itself within
	within.Kids[0], within.Kids[1] = within, within
	wrong(t, within)
}

// copied is a node that shares nothing with another one.
func copied(n api.Node) api.Node {
	n.Names = slices.Clone(n.Names)
	n.Kids = slices.Clone(n.Kids)
	for i := range n.Kids {
		n.Kids[i] = copied(n.Kids[i])
	}
	return n
}

func TestNothingIsChanged(t *testing.T) { // P0.3
	n := read(t, "(do (fun f (x y) (do x y z f)) (handle w (return x x) (on A x k (do x k q)) (finally x)))")
	// Behind the ends of lists stands what nobody may write to.
	roomy := append(make([]string, 0, 9), n.Kids[0].Names...)
	n.Kids[0].Names = roomy
	behind := roomy[:9]
	for i := 2; i < 9; i++ {
		behind[i] = "behind"
	}
	kids := append(make([]api.Node, 0, 5), n.Kids...)
	n.Kids = kids
	before, room := copied(n), slices.Clone(behind)
	got := scope.Free(n)
	scope.Check(n)
	if !reflect.DeepEqual(n, before) || !slices.Equal(behind, room) || !reflect.DeepEqual(kids[:5][2:], make([]api.Node, 3)) {
		t.Error("what was handed in is changed")
	}
	again := scope.Free(n)
	for i := range got[:cap(got)] {
		got[:cap(got)][i] = "written"
	}
	if want := []string{"z", "w", "q", "x"}; !slices.Equal(again, want) || !slices.Equal(scope.Free(n), want) || !reflect.DeepEqual(n, before) {
		t.Errorf("answers share memory: %q", again)
	}
}

func TestNilListsAreEmptyOnes(t *testing.T) { // P0.4
	for _, none := range [][]string{nil, {}} {
		n := api.Node{Kind: api.NodeFun, Text: "f", Names: none, Kids: []api.Node{{Kind: api.NodeVar, Text: "x", Names: none, Kids: []api.Node{}}}}
		has(t, n, "x")
		n.Kids[0].Text = "f"
		has(t, n)
	}
}
