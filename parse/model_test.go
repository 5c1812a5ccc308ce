package parse_test

import (
	"reflect"
	"regexp"
	"slices"
	"strings"
	"testing"

	"sacristan/api"
	"sacristan/lex"
	"sacristan/parse"
	"sacristan/tree"
)

// The answers are found again here in another way: by a machine that has a row of what may come next, and is told one token behind the other. What it reads as a program must be the text of its node.

// rows are what comes behind the words of brackets: t is a name, o an operation that its handle hasn't yet, n a name that its node hasn't yet, N names in brackets, e a node, * nodes up to a closing bracket, c clauses up to one.
func rows() map[string]string {
	l := map[string]string{
		"fun": "t N e )", "call": "e *", "let": "t e e )", "if": "e e e )", "do": "e *", "perform": "t e )", "handle": "e c", "resume": "e e )", "drop": "e e )", "wind": "e e e )",
	}
	for word, parts := range takes() {
		l[word] = strings.Repeat("e ", parts) + ")"
	}
	return l
}

// These are made once, since very many sources are held against the model.
var (
	nodeRows   = rows()
	clauseRows = map[string]string{"return": "n e )", "on": "o n n e )", "finally": "e )"}
	inOrder    = regexp.MustCompile("^(return;)?(on;)*(finally;)?$")
)

// open is a bracket that isn't closed yet: what may come next, the names so far, and of a handle's its clauses and operations so far.
type open struct {
	next       []string
	names, ops []string
	clauses    string
}

type machine struct {
	stack []*open
	begun int
}

func (m *machine) top(down int) *open { return m.stack[len(m.stack)-1-down] }

// begin is a node's beginning: at the sixtieth open bracket there is room for no other one.
func (m *machine) begin(t api.Token, first string) api.Errno {
	if len(m.stack) > 60 || m.begun >= 4000 {
		return api.ErrLong
	}
	m.begun++
	if t.Kind == api.TokOpen {
		m.stack = append(m.stack, &open{next: []string{first}})
	}
	return api.OK
}

// unlike puts a name to those so far, if it is one, and none of them.
func unlike(t api.Token, so *[]string) api.Errno {
	if t.Kind != api.TokWord || slices.Contains(append(*so, "true", "false", "unit"), t.S) {
		return api.ErrForm
	}
	*so = append(*so, t.S)
	return api.OK
}

// head takes the word behind a bracket.
func (m *machine) head(t api.Token, rows map[string]string) api.Errno {
	row, ok := rows[t.S]
	if t.Kind != api.TokWord || !ok {
		return api.ErrForm
	}
	m.top(0).next = strings.Fields(row)
	return api.OK
}

// clause takes the word behind a clause's bracket.
func (m *machine) clause(t api.Token) api.Errno {
	handle := m.top(1)
	handle.clauses += t.S + ";"
	if !inOrder.MatchString(handle.clauses) {
		return api.ErrForm
	}
	return m.head(t, clauseRows)
}

func (m *machine) close() api.Errno {
	m.stack = m.stack[:len(m.stack)-1]
	return api.OK
}

// token takes a token, and tells what is wrong with it.
func (m *machine) token(t api.Token) api.Errno {
	f := m.top(0)
	if len(f.next) == 0 {
		return api.ErrForm
	}
	what := f.next[0]
	f.next = f.next[1:]
	ends := t.Kind == api.TokClose
	if strings.Contains("*cP", what) && !ends { // there may be more
		f.next = []string{what}
		if what == "P" {
			f.next = []string{"P", "e", ")"}
		}
	}
	switch {
	case what == "head":
		return m.head(t, nodeRows)
	case what == "clause":
		return m.clause(t)
	case what == "P" && ends:
		return api.OK
	case what == "n" || what == "P":
		return unlike(t, &f.names)
	case what == "t":
		return unlike(t, &[]string{})
	case what == "o":
		return unlike(t, &m.top(1).ops)
	case ends && strings.Contains("*c)", what):
		return m.close()
	case ends || what == ")" || strings.Contains("Nc", what) && t.Kind != api.TokOpen:
		return api.ErrForm
	case what == "N":
		f.next = []string{"P", "e", ")"}
		return api.OK
	case what == "c":
		return m.begin(t, "clause")
	}
	return m.begin(t, "head")
}

// modelled is what Parse must tell beside the node.
func modelled(src string) (int, api.Errno) {
	tokens, at, e := lex.Tokens(src)
	if e != api.OK {
		return at, e
	}
	m := &machine{stack: []*open{{next: []string{"e"}}}}
	for _, t := range tokens {
		if e := m.token(t); e != api.OK {
			return t.At, e
		}
	}
	if len(m.stack) > 1 || len(m.top(0).next) > 0 {
		return len(src), api.ErrShort
	}
	return 0, api.OK
}

// bare are tokens without their places.
func bare(src string) []api.Token {
	l, _, _ := lex.Tokens(src)
	for i := range l {
		l[i].At = 0
	}
	return l
}

// asModelled holds an answer against the model's: whether the source is a program.
func asModelled(t *testing.T, src string) bool {
	t.Helper()
	n, at, e := parse.Parse(src)
	if place, f := modelled(src); at != place || e != f {
		t.Fatalf("Parse(%.300q) = %d, %d, want %d, %d", src, at, e, place, f)
	}
	if e != api.OK {
		if !reflect.DeepEqual(n, api.Node{}) {
			t.Fatalf("Parse(%.300q) has a node beside its error", src)
		}
		return false
	}
	if s, f := tree.Print(n); f != api.OK || !slices.Equal(bare(s), bare(src)) {
		t.Fatalf("Parse(%.300q) is the node of %.300q, %d", src, s, f)
	}
	return true
}

// everyRow goes through all rows of so many of some tokens, behind and ahead of others.
func everyRow(t *testing.T, ahead string, tokens []string, length int, behind string) (programs int) {
	t.Helper()
	if length == 0 {
		if asModelled(t, ahead+behind) {
			programs = 1
		}
		return programs
	}
	for _, s := range tokens {
		programs += everyRow(t, ahead+s+" ", tokens, length-1, behind)
	}
	return programs
}

func TestEveryShortRowOfTokens(t *testing.T) { // P6.1
	programs := 0
	for length := range 6 {
		programs += everyRow(t, "", []string{"(", ")", "5", "x", "unit", "in", "do", "neg", "+", "fun", "handle"}, length, "")
	}
	if programs < 100 {
		t.Errorf("%d programs: too few", programs)
	}
	if programs := everyRow(t, "(fun ", []string{"(", ")", "x", "y", "5", "unit"}, 6, ""); programs < 10 {
		t.Errorf("%d functions: too few", programs)
	}
}

func TestEveryPieceBehindAWord(t *testing.T) { // P6.1
	pieces := []string{"x", "y", "5", `"a"`, "true", "(in)", "()", "(x y)", "(", ")"}
	words := []string{"fun", "call", "let", "if", "do", "perform", "handle", "resume", "drop", "wind", "in", "out", "set", "return", "on", "finally", "weird"}
	for _, word := range words {
		for length := range 5 {
			everyRow(t, "("+word+" ", pieces, length, ")")
			everyRow(t, "(handle x ("+word+" ", pieces, min(length, 3), "))")
		}
	}
	for length := range 6 {
		everyRow(t, "(handle x (on ", []string{"x", "y", "5", "(in)", ")", "(finally x)"}, length, "))")
	}
}

func TestEveryRowOfClauses(t *testing.T) { // P6.1
	programs := 0
	for length := range 6 {
		programs += everyRow(t, "(handle unit ", []string{"(return y 1)", "(on A y k 2)", "(on B y k 3)", "(on A a b 4)", "(finally 5)", "x", "(in)", "(finally"}, length, ")")
	}
	// Eight rows of unlike operations (none, A, A', B, and AB, BA, A'B, BA'), each with a return or not, and a finally or not; and those that the last bracket ends within a finally are none.
	if programs != 8*4 {
		t.Errorf("%d rows of clauses are programs, want 32", programs)
	}
}

// grower makes nodes out of whatever bytes.
type grower struct {
	row  []byte
	left int
}

func (g *grower) next() byte {
	if len(g.row) == 0 {
		return 0
	}
	c := g.row[0]
	g.row = g.row[1:]
	return c
}

func (g *grower) word() string {
	return []string{"x", "y", "f", "A", "+", "if", "x1", "return"}[g.next()%8]
}

func (g *grower) kids(n int) []api.Node {
	var l []api.Node
	for range n {
		l = append(l, g.node())
	}
	return l
}

func (g *grower) node() api.Node {
	g.left--
	kind := 1 + g.next()%16
	if g.left <= 0 {
		kind = 1 + kind%5
	}
	n := api.Node{Kind: kind}
	switch kind {
	case api.NodeInt:
		n.N = int64(int8(g.next())) << (g.next() % 57)
	case api.NodeBool:
		n.N = int64(g.next() % 2)
	case api.NodeStr:
		n.Text = string(g.row[:min(len(g.row), 3)])
	case api.NodeVar:
		n.Text = g.word()
	case api.NodeFun:
		n.Text, n.Names, n.Kids = g.word(), []string{"p", "q", "f"}[:g.next()%4], g.kids(1)
	case api.NodePrim:
		n.Text = []string{"in", "neg", "fst", "out", "+", "<", "pair", "set"}[g.next()%8]
		n.Kids = g.kids(takes()[n.Text])
	case api.NodePerform:
		n.Text, n.Kids = g.word(), g.kids(1)
	case api.NodeLet:
		n.Text, n.Kids = g.word(), g.kids(2)
	case api.NodeHandle:
		n.Kids = append(g.kids(1), g.clauses()...)
	case api.NodeIf, api.NodeWind:
		n.Kids = g.kids(3)
	case api.NodeResume, api.NodeDrop:
		n.Kids = g.kids(2)
	case api.NodeCall, api.NodeDo:
		n.Kids = g.kids(1 + int(g.next()%3))
	}
	return n
}

func (g *grower) clauses() []api.Node {
	var l []api.Node
	sorts := g.next()
	if sorts&1 != 0 {
		l = append(l, with(api.NodeReturn, "", g.node(), g.word()))
	}
	for _, op := range []string{"A", "B", "C"}[:sorts>>1%4] {
		l = append(l, with(api.NodeOn, op, g.node(), "x", "k"))
	}
	if sorts&8 != 0 {
		l = append(l, of(api.NodeFinally, "", g.node()))
	}
	return l
}

// thereAndBack holds that a node's text is parsed as the node, and cut off anywhere is missing something.
func thereAndBack(t *testing.T, row []byte) string {
	t.Helper()
	n := (&grower{row: row, left: 40}).node()
	src, e := tree.Print(n)
	if e != api.OK { // too deep
		return "x"
	}
	read(t, src, n)
	tokens, _, _ := lex.Tokens(src)
	for _, token := range tokens {
		stopped(t, src[:token.At], token.At, api.ErrShort)
	}
	return src
}

// spoilt is a source with a token left out, told twice, or another one in its place.
func spoilt(src string, where, how int) string {
	tokens, _, _ := lex.Tokens(src)
	at := tokens[where%len(tokens)].At
	end := len(src)
	if where = where%len(tokens) + 1; where < len(tokens) {
		end = tokens[where].At
	}
	others := []string{"", src[at:end] + " " + src[at:end], " ( ", " ) ", " x ", " 5 ", ` "a" `, " unit ", " do ", " (in) ", " A ", " (finally x) ", " return ", " on ", " (", ")"}
	return src[:at] + others[how%len(others)] + src[end:]
}

func TestManyGrownNodes(t *testing.T) { // P6.1, P6.2
	seed := uint64(1)
	programs := 0
	for range 400 {
		row := make([]byte, 120)
		for i := range row {
			seed = seed*6364136223846793005 + 1442695040888963407
			row[i] = byte(seed >> 56)
		}
		src := thereAndBack(t, row)
		for range 20 {
			seed = seed*6364136223846793005 + 1442695040888963407
			if asModelled(t, spoilt(src, int(seed>>40), int(seed>>33&127))) {
				programs++
			}
		}
	}
	if programs < 250 || programs > 7750 {
		t.Errorf("%d of 8000 spoilt sources are programs: too few of a sort", programs)
	}
}

func FuzzGrown(f *testing.F) { // P6.2
	f.Add([]byte("\x0c\x05\x00\x00\x00\x01\x00\x00\x0f\x00"))
	f.Add([]byte("\x05\x00\x00\x00\x03\x06\x01\xff"))
	f.Fuzz(func(t *testing.T, row []byte) { thereAndBack(t, row) })
}

func FuzzParse(f *testing.F) { // P6.1
	for src := range kinds() {
		f.Add(src)
	}
	for _, src := range []string{"", "(+ 1", "1 2", "(handle 1 (finally 1) (return x x))", strings.Repeat("(do ", 60) + "x", "(handle (fun f (a a) b) (on A x k", ") \"\\q"} {
		f.Add(src)
	}
	f.Fuzz(func(t *testing.T, src string) { asModelled(t, src) })
}
