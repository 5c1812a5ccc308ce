package calc

import (
	"slices"

	"sacristan/api"
)

// clause is a handle's clause of a kind (of a NodeOn: for that operation), or nil.
func clause(handle *api.Node, kind uint8, op string) *api.Node {
	clauses := handle.Kids[1:]
	for i := range clauses {
		if clauses[i].Kind == kind && clauses[i].Text == op {
			return &clauses[i]
		}
	}
	return nil
}

func (m *machine) handle(n *api.Node, env *environment) {
	if last := clause(n, api.NodeFinally, ""); last != nil {
		f := &frame{place: place{last, env}}
		f.given = func(v api.Value) { m.keep(v, f.last()) }
		m.put(f)
	}
	m.put(&frame{place: place{n, env}, given: func(v api.Value) {
		if back := clause(n, api.NodeReturn, ""); back != nil {
			m.next(&back.Kids[0], env.with(back.Names[0], v))
			return
		}
		m.give(v)
	}})
	m.next(&n.Kids[0], env)
}

func (m *machine) wind(n *api.Node, env *environment) {
	// Until it is entered there is nothing to leave.
	m.push(func(api.Value) {
		f := &frame{place: place{n, env}}
		f.given = func(v api.Value) { m.keep(v, f.after()) }
		m.put(f)
		m.next(&n.Kids[1], env)
	})
	m.next(&n.Kids[0], env)
}

func (m *machine) perform(op string, v api.Value) {
	for f := range outwards(m.nearest) {
		if !f.of(api.NodeHandle) {
			continue
		}
		if on := clause(f.node, api.NodeOn, op); on != nil {
			m.suspend(f, on, v)
			return
		}
	}
	m.fail(api.ErrEffect)
}

// suspend takes the frames up to a handle's off, and does its clause with a value and them.
func (m *machine) suspend(handle *frame, on *api.Node, v api.Value) {
	nearest := m.nearest
	k, e := m.heap.Make(api.Cont, &thing{nearest: nearest, farthest: handle})
	if e != api.OK {
		m.fail(e)
		return
	}
	m.nearest, handle.outer = handle.outer, nil
	env := handle.env.with(on.Names[0], v).with(on.Names[1], k)
	m.each(func() { m.next(&on.Kids[0], env) }, gathered(nearest, api.NodeWind, (*frame).after)...)
}

// use takes the frames of a Cont, the nearest and the farthest one, once.
func (m *machine) use(k api.Value) (nearest, farthest *frame, e api.Errno) {
	if k.Tag != api.Cont {
		return nil, nil, api.ErrTag
	}
	t, e := m.heap.Thing(k)
	if e != api.OK {
		return nil, nil, e
	}
	if t.nearest == nil {
		return nil, nil, api.ErrUsed
	}
	nearest, farthest = t.nearest, t.farthest
	t.nearest, t.farthest = nil, nil
	return nearest, farthest, api.OK
}

func (m *machine) resume(k, v api.Value) {
	nearest, farthest, e := m.use(k)
	if e != api.OK {
		m.fail(e)
		return
	}
	befores := gathered(nearest, api.NodeWind, (*frame).before)
	slices.Reverse(befores)
	m.each(func() {
		m.nearest, farthest.outer = nearest, m.nearest
		m.give(v)
	}, befores...)
}

func (m *machine) drop(k, v api.Value) {
	nearest, _, e := m.use(k)
	if e != api.OK {
		m.fail(e)
		return
	}
	m.each(func() { m.give(v) }, gathered(nearest, api.NodeFinally, (*frame).last)...)
}

// unwind lets a frame go by an error, which goes on behind what is done where a wind, or a handle with a finally, is left.
func (m *machine) unwind(f *frame, e api.Errno) {
	on := func() { m.fail(e) }
	switch {
	case f.of(api.NodeWind):
		m.each(on, f.after())
	case f.of(api.NodeFinally):
		m.each(on, f.last())
	}
}
