package calc_test

import (
	"fmt"
	"strings"
	"testing"

	"sacristan/api"
	"sacristan/calc"
	"sacristan/tree"
	"sacristan/value"
)

// asModelled holds a program against the model, with enough steps and with fewer ones: how it ends.
func asModelled(t *testing.T, n api.Node, inputs []api.Value, steps int) api.Outcome {
	t.Helper()
	o := calc.Run(n, inputs, steps)
	if got, want := told(o), told(modelled(n, inputs, steps)); got != want {
		t.Fatalf("%s, %d steps:\n got %.900s\nwant %.900s", brief(n), steps, got, want)
	}
	for _, part := range []int{0, o.Steps / 3, o.Steps / 2, o.Steps - 2, o.Steps - 1, o.Steps} {
		got, want := told(calc.Run(n, inputs, part)), told(modelled(n, inputs, max(part, 0)))
		if got != want {
			t.Fatalf("%s, %d steps of %d:\n got %.900s\nwant %.900s", brief(n), part, o.Steps, got, want)
		}
	}
	return o
}

// around are what may stand around a node, within a handle.
var around = []string{
	"_", "(+ 1 _)", "(do _ (out 2))", "(let y _ (pair y y))", "(if true _ 0)",
	"(wind (out 4) _ (out 5))", "(wind _ (out 6) (out 7))", "(wind (out 8) (out 9) _)", "(wind (perform B 1) _ (perform B 2))",
	"(handle _ (finally (out 10)))", "(handle 1 (finally _))", "(handle 1 (return x _))", "(handle (perform C 1) (on C x k _))",
	"(handle _ (return x (out x)) (on B x k (resume k (pair x 3))))", "(handle _ (on A x k (do (out 11) (resume k 20))))", "(handle _ (on B x k (drop k x)) (finally (perform A 2)))",
}

// bodies are what a handle's clause may do.
var bodies = []string{
	"x", "(resume k x)", "(drop k x)", "(do (resume k 1) (resume k 2))", "(do (drop k 1) (drop k 2))", "(pair (resume k 3) x)",
	"(wind (out 13) (resume k 3) (out 14))", "(wind (out 13) (drop k 3) (out 14))", "(handle (resume k x) (return x (pair x 0)) (on A x k (resume k 9)) (finally (out 15)))",
	"(/ 1 0)", "(perform B x)", "(perform A x)", "(let l (perform B k) (resume l x))",
}

// outside are what may stand around all.
var outside = []string{
	"_", "(handle _ (on A x k (resume k (out x))) (on B x k (do (out x) (resume k x))))", "(wind (out 16) _ (out 17))", "(handle (let r _ (resume r 7)) (on B x k x))",
}

// TestEveryPlace lets what performs, or is an error, stand in every place, and clauses do everything, and holds them all against the model.
func TestEveryPlace(t *testing.T) { // P8.1, P8.2
	seen := map[string]int{}
	count := 0
	for _, first := range around {
		for _, second := range around {
			for _, third := range around {
				for _, leaf := range []string{"(perform A 1)", "(/ 1 0)", "(perform B 18)"} {
					body, last := bodies[count%len(bodies)], outside[count/len(bodies)%len(outside)]
					count++
					src := "(handle _ (return x (do (out 0) x)) (on A x k " + body + ") (finally (out 12)))"
					for _, part := range []string{first, second, third, leaf} {
						src = strings.ReplaceAll(src, "_", part)
					}
					o := asModelled(t, read(t, strings.ReplaceAll(last, "_", src)), nil, 400)
					seen[fmt.Sprint(o.State, " ", int(o.Err))]++
				}
			}
		}
	}
	for _, e := range []api.Errno{api.ErrTag, api.ErrZero, api.ErrUsed, api.ErrEffect} {
		if seen[fmt.Sprint(api.Wrong, " ", int(e))] < 50 {
			t.Errorf("too few end with %d: %v", e, seen)
		}
	}
	if seen[fmt.Sprint(api.Done, " ", 0)] < 1000 {
		t.Errorf("too few end with a value: %v", seen)
	}
}

// TestEveryPair lets each clause stand behind each outside, with all pairs of places.
func TestEveryPair(t *testing.T) { // P8.1, P8.2
	for _, body := range bodies {
		for _, last := range outside {
			for _, first := range around {
				for _, second := range around {
					src := "(handle " + strings.ReplaceAll(first, "_", strings.ReplaceAll(second, "_", "(perform A 1)")) + " (on A x k " + body + ") (finally (out 12)))"
					asModelled(t, read(t, strings.ReplaceAll(last, "_", src)), nil, 400)
				}
			}
		}
	}
}

// bound is a name that is bound, and what it is bound to, as far as that is known: v whatever, f a Fun, c a Cell, k a Cont; or o, an operation that a handle around has.
type bound struct {
	name string
	sort byte
	args int
}

// grower makes programs out of whatever bytes. Most of what it makes fits, so that few programs end early.
type grower struct{ row []byte }

func (g *grower) pick(n int) int {
	if len(g.row) == 0 {
		return 0
	}
	b := g.row[0]
	g.row = g.row[1:]
	return int(b) % n
}

func (g *grower) seldom() bool { return g.pick(16) == 15 }

func of(kind uint8, text string, kids ...api.Node) api.Node {
	return api.Node{Kind: kind, Text: text, Kids: kids}
}

func and(env []bound, more ...bound) []bound { return append(env[:len(env):len(env)], more...) }

// known are those of a sort (v: all but operations); where there is none it is nobody's fault but seldom.
func known(env []bound, sort byte) []bound {
	var l []bound
	for _, b := range env {
		if b.sort == sort || sort == 'v' && b.sort != 'o' {
			l = append(l, b)
		}
	}
	return l
}

func (g *grower) fits(env []bound, sort byte) bool { return len(known(env, sort)) > 0 || g.seldom() }

// name is a name that is bound to something of a sort, mostly; else a number.
func (g *grower) name(env []bound, sort byte) api.Node {
	if g.seldom() {
		sort = 'v'
	}
	l := known(env, sort)
	if len(l) == 0 {
		return g.number()
	}
	return of(api.NodeVar, l[len(l)-1-g.pick(len(l))].name)
}

func (g *grower) number() api.Node {
	return api.Node{Kind: api.NodeInt, N: int64(g.pick(9)) - 2}
}

func (g *grower) leaf(env []bound) api.Node {
	switch g.pick(9) {
	case 0, 1, 2:
		return g.number()
	case 3:
		return api.Node{Kind: api.NodeBool, N: int64(g.pick(2))}
	case 4:
		return of(api.NodeStr, strings.Repeat("a\n", g.pick(3)))
	case 5:
		return of(api.NodeUnit, "")
	}
	return g.name(env, 'v')
}

func (g *grower) fun(depth int, env []bound) (api.Node, bound) {
	f := bound{[...]string{"f", "g", "x"}[g.pick(3)], 'f', g.pick(3)}
	n := api.Node{Kind: api.NodeFun, Text: f.name, Names: []string{"x", "y"}[:f.args]}
	env = and(env, f)
	for _, name := range n.Names {
		env = append(env, bound{name, 'v', 0})
	}
	n.Kids = []api.Node{g.node(depth-1, env)}
	return n, f
}

func (g *grower) let(depth int, env []bound) api.Node {
	b := bound{[...]string{"x", "y", "z", "f"}[g.pick(4)], 'v', 0}
	var a api.Node
	switch g.pick(4) {
	case 0:
		var f bound
		a, f = g.fun(depth, env)
		b.sort, b.args = 'f', f.args
	case 1:
		a = of(api.NodePrim, "cell", g.node(depth-1, env))
		b.sort = 'c'
	default:
		a = g.node(depth-1, env)
	}
	return of(api.NodeLet, b.name, a, g.node(depth-1, and(env, b)))
}

func (g *grower) handle(depth int, env []bound) api.Node {
	x := bound{[...]string{"x", "y"}[g.pick(2)], 'v', 0}
	k := bound{[...]string{"k", "l"}[g.pick(2)], 'k', 0}
	var clauses []api.Node
	if g.pick(3) == 1 {
		clauses = append(clauses, api.Node{Kind: api.NodeReturn, Names: []string{x.name}, Kids: []api.Node{g.node(depth-2, and(env, x))}})
	}
	within := env
	for i, ops := 0, 1+g.pick(7); i < 3; i++ {
		if ops>>i&1 == 1 {
			op := "ABC"[i : i+1]
			within = and(within, bound{op, 'o', 0})
			clauses = append(clauses, api.Node{Kind: api.NodeOn, Text: op, Names: []string{x.name, k.name}, Kids: []api.Node{g.clause(depth-1, and(env, x, k))}})
		}
	}
	if g.pick(3) == 1 {
		clauses = append(clauses, of(api.NodeFinally, "", g.node(depth-2, env)))
	}
	return of(api.NodeHandle, "", append([]api.Node{g.node(depth-1, within)}, clauses...)...)
}

// clause is what an operation comes to: it resumes, mostly.
func (g *grower) clause(depth int, env []bound) api.Node {
	last := env[len(env)-1:]
	switch g.pick(5) {
	case 0, 1:
		return of(api.NodeResume, "", g.name(last, 'k'), g.node(depth-1, env))
	case 2:
		return of(api.NodeDo, "", g.node(depth-1, env), of(api.NodeResume, "", g.name(last, 'k'), g.node(depth-1, env)), g.node(depth-1, env))
	}
	return g.node(depth, env)
}

func (g *grower) call(depth int, env []bound) api.Node {
	callee := g.name(env, 'f')
	args := g.pick(3)
	for _, b := range env {
		if b.name == callee.Text && b.sort == 'f' && !g.seldom() {
			args = b.args
		}
	}
	n := of(api.NodeCall, "", callee)
	for range args {
		n.Kids = append(n.Kids, g.node(depth-2, env))
	}
	return n
}

// reckoned is what is reckoned with numbers, mostly.
func (g *grower) reckoned(depth int, env []bound) api.Node {
	part := func() api.Node {
		if g.pick(4) > 0 {
			return g.number()
		}
		return g.node(depth-2, env)
	}
	return of(api.NodePrim, [...]string{"+", "-", "*", "/", "shl", "%", "+", "-", "*", "cat"}[g.pick(10)], part(), part())
}

func (g *grower) choice(depth int, env []bound) api.Node {
	a := of(api.NodePrim, [...]string{"<", "="}[g.pick(2)], g.number(), g.number())
	if g.seldom() {
		a = g.node(depth-2, env)
	}
	return of(api.NodeIf, "", a, g.node(depth-1, env), g.node(depth-1, env))
}

func (g *grower) node(depth int, env []bound) api.Node {
	if depth <= 0 || len(g.row) == 0 {
		return g.leaf(env)
	}
	one := func() api.Node { return g.node(depth-1, env) }
	brief := func() api.Node { return g.node(depth-2, env) }
	switch which := g.pick(25); {
	case which < 3:
		return g.let(depth, env)
	case which == 3:
		return g.choice(depth, env)
	case which < 7:
		return of(api.NodeDo, "", one(), one(), one())
	case which == 7:
		return g.reckoned(depth, env)
	case which < 10:
		return of(api.NodePrim, "out", brief())
	case which < 13 && g.fits(env, 'o'):
		ops := append(known(env, 'o'), bound{"B", 'o', 0})
		return of(api.NodePerform, ops[g.pick(len(ops))].name, brief())
	case which < 16 && g.fits(env, 'k'):
		return of([...]uint8{api.NodeResume, api.NodeResume, api.NodeDrop}[g.pick(3)], "", g.name(env, 'k'), brief())
	case which < 18:
		return of(api.NodeWind, "", brief(), one(), brief())
	case which == 18 && g.fits(env, 'f'):
		return g.call(depth, env)
	case which == 19 && g.fits(env, 'c'):
		return of(api.NodePrim, "set", g.name(env, 'c'), g.name(env, "kv"[g.pick(2)]))
	case which == 20 && g.fits(env, 'c'):
		return of(api.NodeResume, "", of(api.NodePrim, "get", g.name(env, 'c')), brief())
	case which == 21:
		return g.little(depth, env)
	}
	return g.handle(depth, env)
}

// little is what the others don't make.
func (g *grower) little(depth int, env []bound) api.Node {
	switch g.pick(5) {
	case 0:
		return of(api.NodePrim, "in")
	case 1:
		f, _ := g.fun(depth, env)
		return of(api.NodeCall, "", f, g.node(depth-2, env))
	case 2:
		return of(api.NodePrim, [...]string{"fst", "snd", "get", "neg", "cell"}[g.pick(5)], g.node(depth-2, env))
	case 3:
		return g.leaf(env)
	}
	return of(api.NodePrim, "pair", g.node(depth-2, env), g.node(depth-2, env))
}

// grown is a program out of whatever bytes, in which no name is free.
func grown(row []byte) (api.Node, []api.Value) {
	g := &grower{row}
	var inputs []api.Value
	for i := range g.pick(4) {
		inputs = append(inputs, [...]api.Value{value.Of(3), value.Text("in"), value.Is(true)}[i])
	}
	return g.node(8, nil), inputs
}

func TestManyGrownPrograms(t *testing.T) { // P8.1, P8.2
	seen := map[string]int{}
	seed := uint64(8)
	for i := range 12000 {
		row := make([]byte, 20+i%400)
		for j := range row {
			seed = seed*6364136223846793005 + 1442695040888963407
			row[j] = byte(seed >> 56)
		}
		n, inputs := grown(row)
		if !tree.May(n) {
			t.Fatalf("%s may not be", brief(n))
		}
		o := asModelled(t, n, inputs, 1500)
		seen[fmt.Sprint(o.State, " ", int(o.Err))]++
		if o.Steps > 40 {
			seen["long"]++
		}
	}
	for what, least := range map[string]int{"1 0": 3000, "2 2": 500, "2 4": 50, "2 5": 50, "2 6": 50, "2 7": 100, "2 8": 300, "2 9": 50, "3 15": 5, "long": 3000} {
		if seen[what] < least {
			t.Errorf("too few of %s: %v", what, seen)
		}
	}
}

func FuzzGrown(f *testing.F) { // P8.1, P8.2
	f.Add([]byte("\x00\x0c\x13\x09\x00\x00\x00\x10\x00"))
	f.Fuzz(func(t *testing.T, row []byte) {
		if n, inputs := grown(row[:min(len(row), 500)]); tree.May(n) {
			asModelled(t, n, inputs, 1000)
		}
	})
}
