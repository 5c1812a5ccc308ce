package scope

import "sacristan/api"

// free are the free names of a node that may be: no part that is asked for is missing in one.
func free(n api.Node) []string {
	f := finder{bound: make(map[string]int)}
	f.node(n)
	return f.found
}

// finder is who goes through a node, as its text is read: how often each name is bound where it is, and the free ones so far.
type finder struct {
	bound map[string]int
	found []string
}

func (f *finder) node(n api.Node) {
	switch n.Kind {
	case api.NodeVar:
		f.use(n.Text)
	case api.NodeFun:
		// The own name is bound around the parameters: one of them may be the same.
		f.bind(n.Text)
		f.within(n.Kids[0], n.Names...)
		f.unbind(n.Text)
	case api.NodeLet:
		f.node(n.Kids[0])
		f.within(n.Kids[1], n.Text)
	case api.NodeReturn, api.NodeOn:
		f.within(n.Kids[0], n.Names...)
	default:
		for _, kid := range n.Kids {
			f.node(kid)
		}
	}
}

// within goes through a node in which some names are bound.
func (f *finder) within(n api.Node, names ...string) {
	f.bind(names...)
	f.node(n)
	f.unbind(names...)
}

// use takes a name where it stands. One that is found counts as bound for good, so that it is told once.
func (f *finder) use(name string) {
	if f.bound[name] == 0 {
		f.found = append(f.found, name)
		f.bind(name)
	}
}

func (f *finder) bind(names ...string) {
	for _, name := range names {
		f.bound[name]++
	}
}

func (f *finder) unbind(names ...string) {
	for _, name := range names {
		f.bound[name]--
		if f.bound[name] == 0 {
			delete(f.bound, name)
		}
	}
}
