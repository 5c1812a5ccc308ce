package parse

import "sacristan/api"

// clause is a clause's word, its kind, and how many names it has.
type clause struct {
	word  string
	kind  uint8
	names int
}

// order is the clauses, one behind the other as a handle has them.
var order = [...]clause{
	{"return", api.NodeReturn, 1},
	{"on", api.NodeOn, 2},
	{"finally", api.NodeFinally, 0},
}

// clauses reads a handle's clauses. One out of its order is told at its word, behind a finally, too: its bracket begins a node, whatever stands behind it.
func (r *reader) clauses(depth int) []api.Node {
	var l []api.Node
	ops, first := taken{}, 0
	for r.peek().Kind != api.TokClose {
		r.begin(r.expect(api.TokOpen), depth)
		which := r.clauseFrom(first)
		l = append(l, r.clause(order[which], ops, depth))
		r.expect(api.TokClose)
		if first = which; order[which].kind != api.NodeOn {
			first++
		}
	}
	return l
}

// clauseFrom takes a clause's word, that must be one of the clauses from a certain one on: which one it is.
func (r *reader) clauseFrom(first int) int {
	t := r.expect(api.TokWord)
	for which := first; which < len(order); which++ {
		if order[which].word == t.S {
			return which
		}
	}
	panic(stray(t.At))
}

// clause reads what stands behind a clause's word.
func (r *reader) clause(c clause, ops taken, depth int) api.Node {
	n := api.Node{Kind: c.kind}
	if c.kind == api.NodeOn {
		n.Text = r.name(ops)
	}
	others := taken{}
	for range c.names {
		n.Names = append(n.Names, r.name(others))
	}
	n.Kids = r.nodes(1, depth+1)
	return n
}
