package tree

import "sacristan/api"

// fits tells whether a node is neither too deep nor of too many nodes. It is asked ahead of all else, and goes no further than that: a node may have one node in many places, or itself within.
func fits(n api.Node) bool {
	left := api.MaxTree
	var within func(n api.Node, depth int) bool
	within = func(n api.Node, depth int) bool {
		if depth > api.MaxNest || left == 0 {
			return false
		}
		left--
		for _, kid := range n.Kids {
			if !within(kid, depth+1) {
				return false
			}
		}
		return true
	}
	return within(n, 1)
}

// checker is who tells whether all is as said, of nodes that fit.
type checker struct{ shapes map[uint8]shape }

// value tells whether a node is right, and one that tells a value.
func (c checker) value(n api.Node) bool { return !clause(n) && c.right(n) }

// right tells whether a node, or a clause, is as its kind's are, and all within it.
func (c checker) right(n api.Node) bool {
	s, ok := c.shapes[n.Kind]
	if !ok || !s.suits(n) {
		return false
	}
	parts := n.Kids
	if n.Kind == api.NodeHandle {
		if !c.clauses(n.Kids[1:]) {
			return false
		}
		parts = n.Kids[:1]
	}
	for _, part := range parts {
		if !c.value(part) {
			return false
		}
	}
	return true
}

// clauses tells whether a handle's clauses are right, in their order, and of unlike operations.
func (c checker) clauses(l []api.Node) bool {
	var last uint8
	var ops []string
	for _, n := range l {
		// The kinds' numbers are in the clauses' order.
		again := n.Kind == last && n.Kind == api.NodeOn
		if !clause(n) || n.Kind <= last && !again || !c.right(n) {
			return false
		}
		last = n.Kind
		if n.Kind == api.NodeOn {
			ops = append(ops, n.Text)
		}
	}
	return unlike(ops)
}

// suits tells whether a node is of a shape, whatever its parts are.
func (s shape) suits(n api.Node) bool {
	if !s.text(n.Text) || !s.number.has(n.N) || !s.names.has(int64(len(n.Names))) || !s.parts.has(int64(len(n.Kids))) {
		return false
	}
	if n.Kind == api.NodePrim && len(n.Kids) != Takes(n.Text) {
		return false
	}
	for _, text := range n.Names {
		if !name(text) {
			return false
		}
	}
	return unlike(n.Names)
}

func clause(n api.Node) bool {
	return n.Kind == api.NodeReturn || n.Kind == api.NodeOn || n.Kind == api.NodeFinally
}

// unlike tells whether no two texts are the same.
func unlike(l []string) bool {
	times := make(map[string]int, len(l))
	for _, s := range l {
		times[s]++
	}
	return len(times) == len(l)
}
