package calc

import (
	"iter"

	"sacristan/api"
)

// environment binds names, each around those that were bound ahead of it; a nil one binds none.
type environment struct {
	name  string
	value api.Value
	outer *environment
}

func (env *environment) with(name string, v api.Value) *environment {
	return &environment{name, v, env}
}

// of is what a name is bound to.
func (env *environment) of(name string) api.Value {
	for ; env != nil; env = env.outer {
		if env.name == name {
			return env.value
		}
	}
	return api.Value{}
}

// place is a node, and the environment that it is evaluated in.
type place struct {
	node *api.Node
	env  *environment
}

// frame is what waits for a value, and what it does when it is given one. That of a handle, of a finally or of a wind is marked: it has the place of that; others have none.
type frame struct {
	given func(v api.Value)
	place
	outer  *frame // the next one
	marked *frame // the nearest one from here on that is marked
}

// of tells whether a frame is that of a handle, a finally or a wind, as the kind says.
func (f *frame) of(kind uint8) bool { return f.node != nil && f.node.Kind == kind }

// part is the place of a part of a frame's node.
func (f *frame) part(i int) place { return place{&f.node.Kids[i], f.env} }

// before, after and last are the places of what is done where a wind is entered, where it is left, and of what a finally does.
func (f *frame) before() place { return f.part(0) }
func (f *frame) after() place  { return f.part(2) }
func (f *frame) last() place   { return f.part(0) }

// outwards goes through the frames that are marked, from one on. The others are passed over, so that a perform takes no longer where many of them wait.
func outwards(f *frame) iter.Seq[*frame] {
	return func(yield func(f *frame) bool) {
		for f != nil && f.marked != nil && yield(f.marked) {
			f = f.marked.outer
		}
	}
}

// gathered are places of the frames of a kind, from one on.
func gathered(f *frame, kind uint8, which func(f *frame) place) []place {
	var l []place
	for f := range outwards(f) {
		if f.of(kind) {
			l = append(l, which(f))
		}
	}
	return l
}

// put puts a frame on top.
func (m *machine) put(f *frame) {
	f.outer = m.nearest
	switch {
	case f.node != nil:
		f.marked = f
	case f.outer != nil:
		f.marked = f.outer.marked
	}
	m.nearest = f
}

// push puts a frame on top that isn't marked.
func (m *machine) push(given func(v api.Value)) { m.put(&frame{given: given}) }

// pop is the nearest frame, which goes.
func (m *machine) pop() *frame {
	f := m.nearest
	m.nearest = f.outer
	return f
}

// each evaluates places, one behind the other, each with a frame that drops what it is given; then something is done.
func (m *machine) each(then func(), l ...place) {
	if len(l) == 0 {
		then()
		return
	}
	m.push(func(api.Value) { m.each(then, l[1:]...) })
	m.next(l[0].node, l[0].env)
}

// keep evaluates a place with a frame that keeps a value, and gives that on.
func (m *machine) keep(v api.Value, p place) {
	m.each(func() { m.give(v) }, p)
}
