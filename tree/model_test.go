package tree_test

import (
	"fmt"
	"regexp"
	"slices"
	"strconv"
	"strings"
	"testing"

	"sacristan/api"
	"sacristan/lex"
	"sacristan/tree"
)

// The answers are found again here in another way: a node is told as its kind's row of the chapter says, whether it may be or not, and what has no such row may not be.

// rows are the chapter's rows: t stands for a text that is a name, p for a word of a NodePrim, n for a name, N for names in brackets, e for a node, * for nodes, c for clauses.
func rows() map[uint8]string {
	return map[uint8]string{
		api.NodeFun: "fun t N e", api.NodeCall: "call e *", api.NodeLet: "let t e e", api.NodeIf: "if e e e", api.NodeDo: "do e *",
		api.NodePrim: "p *", api.NodePerform: "perform t e", api.NodeHandle: "handle e c", api.NodeResume: "resume e e", api.NodeDrop: "drop e e", api.NodeWind: "wind e e e",
		api.NodeReturn: "return n e", api.NodeOn: "on t n n e", api.NodeFinally: "finally e",
	}
}

// telling is a node being told: what of it isn't told yet.
type telling struct {
	text  []string
	names []string
	kids  []api.Node
	parts []string
	wrong bool
}

func take[T any](t *telling, l *[]T) (first T) {
	if len(*l) == 0 {
		t.wrong = true
		return first
	}
	first, *l = (*l)[0], (*l)[1:]
	return first
}

func isName(s string) bool {
	return lex.Word(s) && !slices.Contains([]string{"true", "false", "unit"}, s)
}

func (t *telling) name(s string) {
	t.wrong = t.wrong || !isName(s)
	t.parts = append(t.parts, s)
}

func (t *telling) node(n api.Node, asClause bool) {
	s, ok := model(n)
	head, _, _ := strings.Cut(rows()[n.Kind], " ")
	isClause := slices.Contains([]string{"return", "on", "finally"}, head)
	t.wrong = t.wrong || !ok || isClause != asClause
	t.parts = append(t.parts, s)
}

func (t *telling) clauses() {
	order, ops := "", map[string]bool{}
	for _, n := range t.kids {
		order += string(rune('A' + n.Kind))
		t.wrong = t.wrong || n.Kind == api.NodeOn && ops[n.Text]
		ops[n.Text] = true
		t.node(n, true)
	}
	t.kids = nil
	t.wrong = t.wrong || !regexp.MustCompile("^R?S*T?$").MatchString(order)
}

// model is a node's text, and whether it is right; how great it is isn't asked.
func model(n api.Node) (string, bool) {
	plain := map[uint8]api.Node{
		api.NodeInt: {Kind: n.Kind, N: n.N}, api.NodeBool: {Kind: n.Kind, N: n.N & 1}, api.NodeStr: {Kind: n.Kind, Text: n.Text},
		api.NodeUnit: {Kind: n.Kind}, api.NodeVar: {Kind: n.Kind, Text: n.Text},
	}
	if want, ok := plain[n.Kind]; ok {
		return plainly(n), fmt.Sprintf("%#v", want) == fmt.Sprintf("%#v", bare(n)) && (n.Kind != api.NodeVar || isName(n.Text)) && len(n.Text) <= 65536
	}
	t := &telling{names: slices.Clone(n.Names), kids: slices.Clone(n.Kids), wrong: n.N != 0 || rows()[n.Kind] == ""}
	if n.Text != "" {
		t.text = []string{n.Text}
	}
	for i, name := range n.Names {
		t.wrong = t.wrong || slices.Contains(n.Names[:i], name)
	}
	for _, part := range strings.Fields(rows()[n.Kind]) {
		t.part(n, part)
	}
	t.wrong = t.wrong || len(t.text)+len(t.names)+len(t.kids) > 0
	return "(" + strings.Join(t.parts, " ") + ")", !t.wrong
}

func (t *telling) part(n api.Node, part string) {
	switch part {
	case "t":
		t.name(take(t, &t.text))
	case "p":
		want, ok := takes()[n.Text]
		t.wrong = t.wrong || !ok || want != len(n.Kids)
		t.parts = append(t.parts, take(t, &t.text))
	case "n":
		t.name(take(t, &t.names))
	case "N":
		for _, s := range t.names {
			t.wrong = t.wrong || !isName(s)
		}
		t.parts = append(t.parts, "("+strings.Join(t.names, " ")+")")
		t.names = nil
	case "e":
		t.node(take(t, &t.kids), false)
	case "*":
		for len(t.kids) > 0 {
			t.node(take(t, &t.kids), false)
		}
	case "c":
		t.clauses()
	default:
		t.parts = append(t.parts, part)
	}
}

// bare is a node with no list where there is an empty one.
func bare(n api.Node) api.Node {
	if len(n.Names) == 0 {
		n.Names = nil
	}
	if len(n.Kids) == 0 {
		n.Kids = nil
	}
	return n
}

// plainly is the text of a node that is right.
func plainly(n api.Node) string {
	switch n.Kind {
	case api.NodeInt:
		return strconv.Itoa(int(n.N))
	case api.NodeBool:
		return []string{"false", "true"}[n.N&1]
	case api.NodeStr:
		var b strings.Builder
		for _, c := range []byte(n.Text) {
			if c == '"' || c == '\\' {
				b.WriteByte('\\')
			}
			if c < ' ' || c > '~' {
				fmt.Fprintf(&b, `\x%02x`, c)
			} else {
				b.WriteByte(c)
			}
		}
		return `"` + b.String() + `"`
	case api.NodeUnit:
		return "unit"
	case api.NodeVar:
		return n.Text
	}
	s, _ := model(n)
	return s
}

// check holds all that is told of a node against the model.
func check(t *testing.T, n api.Node) bool {
	t.Helper()
	want, ok := model(n)
	ok = ok && n.Kind < api.NodeReturn && deep(n) <= 60 && many(n) <= 4000
	if ok {
		told(t, n, want)
	} else {
		wrong(t, n)
	}
	if got := tree.Size(n); got != many(n) {
		t.Fatalf("Size(%s) = %d, want %d", brief(n), got, many(n))
	}
	return ok
}

func deep(n api.Node) int {
	most := 0
	for _, kid := range n.Kids {
		most = max(most, deep(kid))
	}
	return 1 + most
}

// many goes through a node row by row, not down first.
func many(n api.Node) int {
	row := []api.Node{n}
	for i := 0; i < len(row); i++ {
		row = append(row, row[i].Kids...)
	}
	return len(row)
}

// TestEachShape tries every kind with all numbers of names and parts, and texts and numbers of all sorts.
func TestEachShape(t *testing.T) { // P5.1
	right := map[uint8]int{}
	names := [][]string{nil, {}, {"x"}, {"x", "y"}, {"x", "x"}, {"x", "true"}, {"5", "y"}, {"x", "y", "z"}, {"x", "y", "x"}, {"x", ""}}
	for kind := range uint8(22) {
		for _, text := range []string{"", "x", "true", "false", "unit", "-5", "a b", "in", "out", "+", "A", "\xff"} {
			for _, l := range names {
				for parts := range 5 {
					for _, n := range []int64{-1, 0, 1, 2} {
						m := api.Node{Kind: kind, N: n, Text: text, Names: l, Kids: slices.Repeat([]api.Node{x}, parts)}
						if check(t, placed(m)) {
							right[kind]++
						}
						if check(t, m) && kind >= api.NodeReturn {
							t.Fatalf("%s may be", brief(m))
						}
					}
				}
			}
		}
	}
	for kind := api.NodeInt; kind <= api.NodeFinally; kind++ {
		if right[kind] == 0 {
			t.Errorf("no node of kind %d may be", kind)
		}
	}
}

// TestRowsOfClauses tries all rows of up to five clauses.
func TestRowsOfClauses(t *testing.T) { // P5.1
	sorts := []api.Node{ret("y", num(1)), on("A", "y", "k", num(2)), on("B", "y", "k", num(3)), on("A", "a", "b", num(4)), finally(num(5)), x}
	right := 0
	var grow func(l []api.Node)
	grow = func(l []api.Node) {
		if check(t, handle(append([]api.Node{unit}, l...)...)) {
			right++
		}
		if len(l) < 5 {
			for _, c := range sorts {
				grow(append(slices.Clone(l), c))
			}
		}
	}
	grow(nil)
	// Eight rows of unlike operations (none, A, A', B, and AB, BA, A'B, BA'), each with a return or not, and a finally or not.
	if right != 8*4 {
		t.Errorf("%d rows of clauses may be, want 32", right)
	}
}

// grower makes nodes out of whatever bytes: most of them as their kinds are, some with something wrong.
type grower struct {
	row  []byte
	left int
}

func (g *grower) next() byte {
	if len(g.row) == 0 {
		return 0
	}
	c := g.row[0]
	g.row = g.row[1:]
	return c
}

func (g *grower) word() string {
	return []string{"x", "y", "f", "A", "+", "if", "x1", "true"}[min(int(g.next())%29, 7*int(g.next()%2)+int(g.next())%7)%8]
}

func (g *grower) kids(n int) []api.Node {
	var l []api.Node
	for range n {
		l = append(l, g.node())
	}
	return l
}

func (g *grower) node() api.Node {
	g.left--
	kind := 1 + g.next()%16
	if g.left <= 0 {
		kind = 1 + kind%5
	}
	n := api.Node{Kind: kind}
	switch kind {
	case api.NodeInt:
		n.N = int64(int8(g.next())) << (g.next() % 57)
	case api.NodeBool:
		n.N = int64(g.next() % 2)
	case api.NodeStr:
		n.Text = string(g.row[:min(len(g.row), 3)])
	case api.NodeVar:
		n.Text = g.word()
	case api.NodeFun:
		n.Text, n.Names, n.Kids = g.word(), []string{"p", "q", "r"}[:g.next()%4], g.kids(1)
	case api.NodePrim:
		n.Text = []string{"in", "neg", "fst", "out", "+", "<", "pair", "set"}[g.next()%8]
		n.Kids = g.kids(takes()[n.Text])
	case api.NodePerform:
		n.Text, n.Kids = g.word(), g.kids(1)
	case api.NodeLet:
		n.Text, n.Kids = g.word(), g.kids(2)
	case api.NodeHandle:
		n.Kids = append(g.kids(1), g.clauses()...)
	case api.NodeIf, api.NodeWind:
		n.Kids = g.kids(3)
	case api.NodeResume, api.NodeDrop:
		n.Kids = g.kids(2)
	case api.NodeCall, api.NodeDo:
		n.Kids = g.kids(1 + int(g.next()%3))
	}
	return g.spoilt(n)
}

func (g *grower) clauses() []api.Node {
	var l []api.Node
	sorts := g.next()
	if sorts&1 != 0 {
		l = append(l, ret(g.word(), g.node()))
	}
	for _, op := range []string{"A", "B", "C"}[:sorts>>1%4] {
		l = append(l, on(op, "x", "k", g.node()))
	}
	if sorts&8 != 0 {
		l = append(l, finally(g.node()))
	}
	return l
}

// spoilt is the node, rarely with something else in it.
func (g *grower) spoilt(n api.Node) api.Node {
	switch g.next() {
	case 251:
		n.N++
	case 252:
		n.Text += "z"
	case 253:
		n.Names = append(slices.Clone(n.Names), "z")
	case 254:
		n.Kids = append(slices.Clone(n.Kids), unit)
	case 255:
		n.Kind++
	}
	return n
}

func checkGrown(t *testing.T, row []byte) bool {
	t.Helper()
	n := (&grower{row: row, left: 40}).node()
	again := (&grower{row: row, left: 40}).node()
	ok := check(t, n)
	if !tree.Same(n, again) || fmt.Sprintf("%#v", n) != fmt.Sprintf("%#v", again) {
		t.Fatalf("%s isn't as it was", brief(n)) // P0.3
	}
	if ok {
		checkTokens(t, n)
	}
	return ok
}

// checkTokens holds that a text has the tokens that its node asks for: as many brackets as there are nodes with some, and the names, numbers and texts as they are.
func checkTokens(t *testing.T, n api.Node) {
	t.Helper()
	s, _ := tree.Print(n)
	l, _, e := lex.Tokens(s)
	if e != api.OK {
		t.Fatalf("Tokens(%.200q) = %d", s, e)
	}
	want := api.Token{Kind: api.TokOpen}
	switch n.Kind {
	case api.NodeInt:
		want = api.Token{Kind: api.TokNumber, N: n.N}
	case api.NodeStr:
		want = api.Token{Kind: api.TokText, S: n.Text}
	case api.NodeBool, api.NodeUnit, api.NodeVar:
		want = api.Token{Kind: api.TokWord, S: plainly(n)}
	}
	if l[0] != want {
		t.Fatalf("Tokens(%.200q) begin with %v, want %v", s, l[0], want)
	}
	for _, kid := range n.Kids {
		if kid.Kind < api.NodeReturn {
			checkTokens(t, kid)
		}
	}
}

func TestManyGrownNodes(t *testing.T) { // P5.1
	seed, right := uint64(1), 0
	for range 3000 {
		row := make([]byte, 120)
		for i := range row {
			seed = seed*6364136223846793005 + 1442695040888963407
			row[i] = byte(seed >> 56)
		}
		if checkGrown(t, row) {
			right++
		}
	}
	if right < 300 || right > 2900 {
		t.Errorf("%d of 3000 nodes may be: too few of a sort", right)
	}
}

func FuzzGrown(f *testing.F) { // P5.1
	f.Add([]byte("\x0c\x05\x00\x00\x00\x01\x00\x00\x0f\x00"))
	f.Add([]byte("\x05\x00\x00\x00\x03\x06\x01\xff"))
	f.Fuzz(func(t *testing.T, row []byte) { checkGrown(t, row) })
}
