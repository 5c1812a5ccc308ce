package parse

import (
	"sacristan/api"
	"sacristan/tree"
)

// form is what stands behind a word that isn't a NodePrim's: perhaps a name (a NodeFun's parameters behind it), how many parts there must be, and perhaps more of them.
type form struct {
	word  string
	kind  uint8
	named bool
	parts int
	more  bool
}

var forms = [...]form{
	{word: "fun", kind: api.NodeFun, named: true, parts: 1},
	{word: "call", kind: api.NodeCall, parts: 1, more: true},
	{word: "let", kind: api.NodeLet, named: true, parts: 2},
	{word: "if", kind: api.NodeIf, parts: 3},
	{word: "do", kind: api.NodeDo, parts: 1, more: true},
	{word: "perform", kind: api.NodePerform, named: true, parts: 1},
	{word: "handle", kind: api.NodeHandle, parts: 1},
	{word: "resume", kind: api.NodeResume, parts: 2},
	{word: "drop", kind: api.NodeDrop, parts: 2},
	{word: "wind", kind: api.NodeWind, parts: 3},
}

// reader is who reads tokens: those that aren't read yet, and how many nodes have begun.
type reader struct {
	tokens []api.Token
	begun  int
}

// taken are names that others must be unlike.
type taken map[string]int

func (r *reader) program() api.Node {
	n := r.node(1)
	if len(r.tokens) > 0 {
		panic(stray(r.tokens[0].At))
	}
	return n
}

// peek is the next token, that stays.
func (r *reader) peek() api.Token {
	if len(r.tokens) == 0 {
		panic(missing{})
	}
	return r.tokens[0]
}

func (r *reader) take() api.Token {
	t := r.peek()
	r.tokens = r.tokens[1:]
	return t
}

// expect takes a token that must be of a kind.
func (r *reader) expect(kind uint8) api.Token {
	t := r.take()
	if t.Kind != kind {
		panic(stray(t.At))
	}
	return t
}

// name takes a name, or an operation, that is unlike some, and is one of them from then on.
func (r *reader) name(others taken) string {
	t := r.expect(api.TokWord)
	if plain(t.S).Kind != api.NodeVar || others[t.S] > 0 {
		panic(stray(t.At))
	}
	others[t.S]++
	return t.S
}

// begin counts a node, by its first token.
func (r *reader) begin(t api.Token, depth int) {
	if depth > api.MaxNest || r.begun == api.MaxTree {
		panic(excess(t.At))
	}
	r.begun++
}

// node reads a node that tells a value.
func (r *reader) node(depth int) api.Node {
	t := r.take()
	if t.Kind == api.TokClose {
		panic(stray(t.At))
	}
	r.begin(t, depth)
	switch t.Kind {
	case api.TokNumber:
		return api.Node{Kind: api.NodeInt, N: t.N}
	case api.TokText:
		return api.Node{Kind: api.NodeStr, Text: t.S}
	case api.TokWord:
		return plain(t.S)
	}
	n := r.bracketed(depth)
	r.expect(api.TokClose)
	return n
}

// nodes reads so many nodes.
func (r *reader) nodes(count, depth int) []api.Node {
	var l []api.Node
	for range count {
		l = append(l, r.node(depth))
	}
	return l
}

// plain is the node of a word that stands alone.
func plain(word string) api.Node {
	switch word {
	case "true":
		return api.Node{Kind: api.NodeBool, N: 1}
	case "false":
		return api.Node{Kind: api.NodeBool}
	case "unit":
		return api.Node{Kind: api.NodeUnit}
	}
	return api.Node{Kind: api.NodeVar, Text: word}
}

// bracketed reads what stands between a node's brackets.
func (r *reader) bracketed(depth int) api.Node {
	t := r.expect(api.TokWord)
	if parts := tree.Takes(t.S); parts >= 0 {
		return api.Node{Kind: api.NodePrim, Text: t.S, Kids: r.nodes(parts, depth+1)}
	}
	for _, f := range forms {
		if f.word == t.S {
			return r.formed(f, depth)
		}
	}
	panic(stray(t.At))
}

// formed reads what stands behind a form's word.
func (r *reader) formed(f form, depth int) api.Node {
	n := api.Node{Kind: f.kind}
	if f.named {
		n.Text = r.name(taken{})
	}
	if f.kind == api.NodeFun {
		n.Names = r.parameters()
	}
	n.Kids = r.nodes(f.parts, depth+1)
	for f.more && r.peek().Kind != api.TokClose {
		n.Kids = append(n.Kids, r.node(depth+1))
	}
	if f.kind == api.NodeHandle {
		n.Kids = append(n.Kids, r.clauses(depth+1)...)
	}
	return n
}

func (r *reader) parameters() []string {
	r.expect(api.TokOpen)
	var l []string
	for others := (taken{}); r.peek().Kind != api.TokClose; {
		l = append(l, r.name(others))
	}
	r.take()
	return l
}
