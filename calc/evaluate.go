package calc

import (
	"sacristan/api"
	"sacristan/show"
	"sacristan/value"
)

func (m *machine) evaluate(n *api.Node, env *environment) {
	switch n.Kind {
	case api.NodeInt:
		m.give(value.Of(n.N))
	case api.NodeBool:
		m.give(value.Is(n.N == 1))
	case api.NodeStr:
		m.give(value.Text(n.Text))
	case api.NodeUnit:
		m.give(api.Value{})
	case api.NodeVar:
		m.give(env.of(n.Text))
	case api.NodeFun:
		m.answer(m.heap.Make(api.Fun, &thing{place: place{n, env}}))
	case api.NodeLet:
		m.let(n, env)
	case api.NodeIf:
		m.choose(n, env)
	case api.NodeHandle:
		m.handle(n, env)
	case api.NodeWind:
		m.wind(n, env)
	default:
		m.parts(n, env, 0, nil)
	}
}

func (m *machine) let(n *api.Node, env *environment) {
	m.push(func(v api.Value) { m.next(&n.Kids[1], env.with(n.Text, v)) })
	m.next(&n.Kids[0], env)
}

func (m *machine) choose(n *api.Node, env *environment) {
	m.push(func(v api.Value) {
		switch v {
		case value.Is(true):
			m.next(&n.Kids[1], env)
		case value.Is(false):
			m.next(&n.Kids[2], env)
		default:
			m.fail(api.ErrTag)
		}
	})
	m.next(&n.Kids[0], env)
}

// parts evaluates a node's parts from one on, with the values so far; then it is done.
func (m *machine) parts(n *api.Node, env *environment, from int, values []api.Value) {
	if from == len(n.Kids) {
		m.done(n, values)
		return
	}
	kept := len(values)
	if n.Kind == api.NodeDo {
		kept = 0 // nobody asks for any value of it but the last
	}
	m.push(func(v api.Value) {
		// Cut off at its end, so that no two frames write behind one list.
		m.parts(n, env, from+1, append(values[:kept:kept], v))
	})
	m.next(&n.Kids[from], env)
}

// done does a node whose parts are evaluated.
func (m *machine) done(n *api.Node, values []api.Value) {
	switch n.Kind {
	case api.NodeDo:
		m.give(values[0])
	case api.NodePrim:
		m.answer(m.reckon(n.Text, values))
	case api.NodeCall:
		m.call(values[0], values[1:])
	case api.NodePerform:
		m.perform(n.Text, values[0])
	case api.NodeResume:
		m.resume(values[0], values[1])
	case api.NodeDrop:
		m.drop(values[0], values[1])
	}
}

// reckon is what a NodePrim comes to.
func (m *machine) reckon(word string, values []api.Value) (api.Value, api.Errno) {
	switch word {
	case "pair":
		return m.heap.Pair(values[0], values[1])
	case "fst":
		return m.heap.Fst(values[0])
	case "snd":
		return m.heap.Snd(values[0])
	case "cell":
		return m.heap.Cell(values[0])
	case "get":
		return m.heap.Get(values[0])
	case "set":
		return api.Value{}, m.heap.Set(values[0], values[1])
	case "out":
		m.trace = append(m.trace, show.Show(m.heap, values[0]))
		return api.Value{}, api.OK
	case "in":
		return m.input()
	}
	if len(values) == 1 {
		return value.One(word, values[0])
	}
	return value.Two(word, values[0], values[1])
}

func (m *machine) input() (api.Value, api.Errno) {
	if len(m.inputs) == 0 {
		return api.Value{}, api.ErrInput
	}
	v := m.inputs[0]
	m.inputs = m.inputs[1:]
	return v, api.OK
}

func (m *machine) call(f api.Value, arguments []api.Value) {
	if f.Tag != api.Fun {
		m.fail(api.ErrTag)
		return
	}
	t, e := m.heap.Thing(f)
	if e != api.OK {
		m.fail(e)
		return
	}
	fun, env := t.node, t.env
	if len(arguments) != len(fun.Names) {
		m.fail(api.ErrArity)
		return
	}
	env = env.with(fun.Text, f)
	for i, name := range fun.Names {
		env = env.with(name, arguments[i])
	}
	m.next(&fun.Kids[0], env)
}
