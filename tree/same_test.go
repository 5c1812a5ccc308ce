package tree_test

import (
	"fmt"
	"slices"
	"testing"

	"sacristan/api"
	"sacristan/tree"
)

// others are nodes that aren't the same as a node, by one thing each.
func others(n api.Node) []api.Node {
	l := []api.Node{n, n, n, n, n, n, n}
	l[0].Kind++
	l[1].N--
	l[2].Text += "\x00"
	l[3].Names = append(slices.Clone(n.Names), "x")
	l[4].Kids = append(slices.Clone(n.Kids), api.Node{})
	l[5].Names = append([]string{""}, n.Names...)
	l[6].Kids = append([]api.Node{{Kind: 99}}, n.Kids...)
	for i, s := range n.Names {
		m := n
		m.Names = slices.Clone(n.Names)
		m.Names[i] = s + "'"
		l = append(l, m)
		m.Names = slices.Delete(slices.Clone(n.Names), i, i+1)
		l = append(l, m)
	}
	for i, kid := range n.Kids {
		m := n
		m.Kids = slices.Delete(slices.Clone(n.Kids), i, i+1)
		l = append(l, m)
		for _, other := range others(kid) {
			m.Kids = slices.Clone(n.Kids)
			m.Kids[i] = other
			l = append(l, m)
		}
	}
	return l
}

// copied is a node in memory of its own.
func copied(n api.Node) api.Node {
	n.Names = slices.Clone(n.Names)
	n.Kids = slices.Clone(n.Kids)
	for i, kid := range n.Kids {
		n.Kids[i] = copied(kid)
	}
	return n
}

func same(t *testing.T, a, b api.Node, want bool) {
	t.Helper()
	if got, back := tree.Same(a, b), tree.Same(b, a); got != want || back != want {
		t.Fatalf("Same(%s, %s) = %v, and %v the other way, want %v", brief(a), brief(b), got, back, want)
	}
}

func TestSame(t *testing.T) { // P5.1
	l := append(sample(), api.Node{}, api.Node{Kind: 255, N: -1, Text: "\xff", Names: []string{"", "", "5"}, Kids: sample()},
		handle(fun("f", []string{"x", "y"}, x), ret("x", of(api.NodeIf, "", yes, no, str("a"))), on("A", "x", "k", x), on("B", "x", "k", num(1)), finally(unit)))
	for i, n := range l {
		same(t, n, n, true)
		same(t, n, copied(n), true)
		for _, other := range others(n) {
			same(t, n, other, false)
		}
		for j, m := range l {
			same(t, n, m, i == j)
		}
	}
	same(t, of(api.NodeDo, "", num(1), num(2)), of(api.NodeDo, "", num(2), num(1)), false)
	same(t, fun("f", []string{"x", "y"}, x), fun("f", []string{"y", "x"}, x), false)
}

func TestEmptyListsAreNone(t *testing.T) { // P0.4
	for _, n := range []api.Node{num(5), x, prim("in"), of(api.NodeDo, "", x), fun("f", nil, x), handle(x, finally(x))} {
		m := hollow(n)
		same(t, n, m, true)
		told(t, m, plainly(n))
		if tree.Size(m) != tree.Size(n) {
			t.Errorf("Size(%s) = %d, want %d", brief(m), tree.Size(m), tree.Size(n))
		}
	}
}

// hollow is a node with empty lists where there are none.
func hollow(n api.Node) api.Node {
	n.Names = append([]string{}, n.Names...)
	kids := []api.Node{}
	for _, kid := range n.Kids {
		kids = append(kids, hollow(kid))
	}
	n.Kids = kids
	return n
}

// What is handed in stays as it is, the room behind its lists' ends, too.
func TestNothingIsChanged(t *testing.T) { // P0.3
	names := []string{"x", "y", "behind", "it"}
	kids := []api.Node{handle(x, ret("x", x), on("A", "x", "k", x), finally(x)), num(77), num(78)}
	n := api.Node{Kind: api.NodeFun, Text: "f", Names: names[:2], Kids: kids[:1]}
	on := api.Node{Kind: api.NodeOn, Text: "A", Names: names[:2], Kids: kids[1:2]}
	want := fmt.Sprintf("%#v %#v", names, kids)
	for _, m := range []api.Node{n, handle(unit, on)} {
		tree.May(m)
		tree.Print(m)
		tree.Same(m, m)
		tree.Size(m)
		if got := fmt.Sprintf("%#v %#v", names, kids); got != want {
			t.Fatalf("%s was changed to %s", want, got)
		}
	}
}
