package scope_test

import (
	"slices"
	"testing"

	"sacristan/api"
	"sacristan/lex"
	"sacristan/scope"
	"sacristan/tree"
)

// The answers are found again here in another way: out of a node's text, token by token, by where a word stands within the brackets that are open around it.

// bracket is one that is open: the word behind it, how many parts have begun, and the names that it has told so far.
type bracket struct {
	head  string
	parts int
	names []string
}

// binds tells whether a name is bound by a bracket, in its part that has begun last.
func (b *bracket) binds(name string) bool {
	return slices.Contains(b.names, name) && (b.head != "let" || b.parts == 4)
}

// sort tells what a word is, by its place: h the word behind a bracket, n a name that is bound, o an operation, e a node.
func (b *bracket) sort() byte {
	places := map[string]string{"fun": "hn(e", "let": "hnee", "perform": "hoe", "return": "hne", "on": "honne"}
	switch row, ok := places[b.head]; {
	case b.head == "(":
		return 'n'
	case ok:
		return row[b.parts-1]
	case b.parts == 1:
		return 'h'
	}
	return 'e'
}

// modelled are the free names of a text.
func modelled(t *testing.T, text string) (free []string) {
	t.Helper()
	tokens, _, e := lex.Tokens(text)
	if e != api.OK {
		t.Fatalf("Tokens(%.300q) = %d", text, e)
	}
	open := []*bracket{{head: "do", parts: 1}}
	for _, token := range tokens {
		b := open[len(open)-1]
		if token.Kind == api.TokClose {
			open = open[:len(open)-1]
			if b.head == "(" { // parameters are told by their function
				open[len(open)-1].names = append(open[len(open)-1].names, b.names...)
			}
			continue
		}
		b.parts++
		if token.Kind == api.TokOpen {
			head := ""
			if b.sort() == '(' {
				head = "("
			}
			open = append(open, &bracket{head: head})
			continue
		}
		switch sort := b.sort(); {
		case sort == 'h':
			b.head = token.S
		case sort == 'n':
			b.names = append(b.names, token.S)
		case sort != 'e' || token.Kind != api.TokWord || slices.Contains([]string{"true", "false", "unit"}, token.S) || slices.Contains(free, token.S):
		case !slices.ContainsFunc(open, func(b *bracket) bool { return b.binds(token.S) }):
			free = append(free, token.S)
		}
	}
	return free
}

// asModelled holds a node's free names against the model's: how many there are; -1, if it may not be.
func asModelled(t *testing.T, n api.Node) int {
	t.Helper()
	text, e := tree.Print(n)
	if e != api.OK {
		wrong(t, n)
		return -1
	}
	free := modelled(t, text)
	has(t, n, free...)
	return len(free)
}

// The model itself is held against what is told by hand.
func TestModel(t *testing.T) {
	for src, want := range map[string][]string{
		"x":                                 {"x"},
		"unit":                              nil,
		`"x"`:                               nil,
		"(let x x x)":                       {"x"},
		"(let let let (do let x))":          {"let", "x"},
		"(fun f (x) (call f x y))":          {"y"},
		"(fun f () (fun g (f) (do f g x)))": {"x"},
		"(handle a (return x x) (on Ask x k (resume k b)) (finally x))": {"a", "b", "x"},
		"(handle 1 (on A x k (perform A (do A x k))))":                  {"A"},
	} {
		if got := modelled(t, src); !slices.Equal(got, want) {
			t.Errorf("the model tells %q of %s, want %q", got, src, want)
		}
	}
}

// small are all nodes of so many nodes, over two names, of the kinds that bind some, and of some that don't.
func small(size int, known map[int][]api.Node) []api.Node {
	if size == 1 {
		return []api.Node{x, name("y")}
	}
	if l, ok := known[size]; ok {
		return l
	}
	var l []api.Node
	for _, e := range small(size-1, known) {
		l = append(l, do(e), fun("x", nil, e), fun("x", []string{"x"}, e), fun("y", []string{"x"}, e), fun("x", []string{"y", "x"}, e), fun("f", []string{"x"}, e))
	}
	for first := 1; first < size-1; first++ {
		for _, a := range small(first, known) {
			for _, b := range small(size-1-first, known) {
				l = append(l, do(a, b), let("x", a, b), let("y", a, b))
			}
			if first == size-2 {
				continue
			}
			for _, b := range small(size-2-first, known) { // the clause is a node, too
				l = append(l, handle(a, ret("x", b)), handle(a, on("x", "y", "k", b)), handle(a, on("A", "y", "x", b)), handle(a, finally(b)))
			}
		}
	}
	known[size] = l
	return l
}

func TestEverySmallNode(t *testing.T) { // P7.1
	times := [3]int{}
	known := map[int][]api.Node{}
	for size := 1; size <= 6; size++ {
		for _, n := range small(size, known) {
			times[asModelled(t, n)]++
		}
	}
	for many, nodes := range times {
		if nodes < 1000 {
			t.Errorf("%d nodes with %d free names: too few", nodes, many)
		}
	}
}

// grower makes nodes out of whatever bytes.
type grower struct {
	row  []byte
	left int
}

func (g *grower) next() byte {
	if len(g.row) == 0 {
		return 0
	}
	c := g.row[0]
	g.row = g.row[1:]
	return c
}

func (g *grower) word() string {
	return []string{"x", "y", "f", "k", "let", "A", "x1", "true"}[g.next()%36%8]
}

// words are some unlike ones.
func (g *grower) words(n int) []string {
	all := []string{"x", "y", "f", "k", "let", "A"}
	from := int(g.next()) % 6
	return slices.Concat(all[from:], all[:from])[:n]
}

func (g *grower) nodes(n int) (l []api.Node) {
	for range n {
		l = append(l, g.node())
	}
	return l
}

func (g *grower) node() api.Node {
	g.left--
	kind := 1 + g.next()%20
	if kind > 16 || g.left <= 0 {
		return name(g.word())
	}
	n := api.Node{Kind: kind}
	switch kind {
	case api.NodeInt:
		n.N = int64(g.next())
	case api.NodeBool:
		n.N = int64(g.next() % 2)
	case api.NodeStr, api.NodeVar:
		n.Text = g.word()
	case api.NodeFun:
		n.Text, n.Names, n.Kids = g.word(), g.words(int(g.next()%4)), g.nodes(1)
	case api.NodePrim:
		n.Text = []string{"in", "neg", "+", "pair"}[g.next()%4]
		n.Kids = g.nodes(tree.Takes(n.Text))
	case api.NodePerform:
		n.Text, n.Kids = g.word(), g.nodes(1)
	case api.NodeLet:
		n.Text, n.Kids = g.word(), g.nodes(2)
	case api.NodeHandle:
		n.Kids = append(g.nodes(1), g.clauses()...)
	case api.NodeIf, api.NodeWind:
		n.Kids = g.nodes(3)
	case api.NodeResume, api.NodeDrop:
		n.Kids = g.nodes(2)
	case api.NodeCall, api.NodeDo:
		n.Kids = g.nodes(1 + int(g.next()%3))
	}
	return n
}

func (g *grower) clauses() (l []api.Node) {
	sorts := g.next()
	if sorts&1 != 0 {
		l = append(l, ret(g.word(), g.node()))
	}
	for _, op := range g.words(int(sorts >> 1 % 4)) {
		names := g.words(2)
		l = append(l, on(op, names[0], names[1], g.node()))
	}
	if sorts&8 != 0 {
		l = append(l, finally(g.node()))
	}
	return l
}

// checkGrown holds a grown node against the model, and against what binding its names around it does.
func checkGrown(t *testing.T, row []byte) int {
	t.Helper()
	n := (&grower{row: row, left: 40}).node()
	many := asModelled(t, n)
	if many < 0 {
		return many
	}
	free := scope.Free(n)
	if tree.May(do(n)) {
		has(t, fun("own", free, n))
		has(t, handle(n, finally(n)), free...)
	}
	for i, s := range free {
		others := slices.Delete(slices.Clone(free), i, i+1)
		if tree.May(do(n)) {
			has(t, let(s, unit, n), others...)
			has(t, fun(s, nil, n), others...)
			has(t, let(s, n, n), free...)
			has(t, do(let(s, unit, n), n), append(others, s)...)
		}
	}
	return many
}

func TestManyGrownNodes(t *testing.T) { // P7.1
	seed, times := uint64(1), map[int]int{}
	for range 5000 {
		row := make([]byte, 150)
		for i := range row {
			seed = seed*6364136223846793005 + 1442695040888963407
			row[i] = byte(seed >> 56)
		}
		times[checkGrown(t, row)]++
	}
	for many := -1; many <= 4; many++ {
		if times[many] < 20 {
			t.Errorf("%d of 5000 nodes with %d free names: too few", times[many], many)
		}
	}
}

func FuzzGrown(f *testing.F) { // P7.1
	f.Add([]byte("\x07\x00\x04\x00\x05\x01"))
	f.Add([]byte("\x05\x00\x01\x02\x04\x01"))
	f.Add([]byte("\x0c\x04\x00\x0b\x00\x04\x00\x02\x01\x04\x03"))
	f.Fuzz(func(t *testing.T, row []byte) { checkGrown(t, row) })
}
