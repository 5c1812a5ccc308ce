package calc_test

import (
	"iter"
	"maps"
	"slices"

	"sacristan/api"
	"sacristan/heap"
	"sacristan/show"
	"sacristan/value"
)

// The outcomes are found again here in another way: a node's value is what a function answers that calls itself for its parts; what stands within a handle is a routine of its own, that rests where it performs. Frames are the calls that haven't answered yet.

// names are an environment, whole.
type names map[string]api.Value

func (env names) with(name string, v api.Value) names {
	all := maps.Clone(env)
	if all == nil {
		all = names{}
	}
	all[name] = v
	return all
}

// held is a Fun, or a Cont's routines, the innermost one first.
type held struct {
	node     api.Node
	env      names
	routines []*routine
}

// open is a wind that is entered, or a finally that is to come.
type open struct {
	node api.Node
	env  names
}

// routine is what stands within a handle, or the whole program: what is open in it, who waits for it, and what it is handed when it goes on.
type routine struct {
	handle api.Node
	env    names
	outer  *routine
	opened []open
	handed api.Value
	next   func() (event, bool)
	yield  func(event) bool
}

// event is why a routine rests: it has ended, or it performs; the routines are those that rest by it.
type event struct {
	ended    bool
	v        api.Value
	e        api.Errno
	op       string
	routines []*routine
}

// enough is thrown when there are no steps left, gone where a routine isn't wanted any more.
type enough struct{}
type gone struct{}

type model struct {
	heap   *heap.Heap[*held]
	inputs []api.Value
	o      api.Outcome
	limit  int
	stops  []func()
}

// modelled is the outcome of a program that may be run.
func modelled(n api.Node, inputs []api.Value, steps int) (o api.Outcome) {
	m := &model{heap: heap.New[*held](api.MaxHeap), inputs: inputs, limit: steps}
	defer func() {
		for _, stop := range m.stops {
			stop()
		}
		if thrown := recover(); thrown == (enough{}) {
			o = m.o
			o.State, o.Err = api.Spent, api.ErrFuel
		} else if thrown != nil {
			panic(thrown)
		}
	}()
	v, e := m.eval(n, nil, &routine{})
	if m.o.State, m.o.Err = api.Done, e; e != api.OK {
		m.o.State = api.Wrong
	} else {
		m.o.Text = show.Show(m.heap, v)
	}
	return m.o
}

func (m *model) tick() {
	if m.o.Steps >= m.limit {
		panic(enough{})
	}
	m.o.Steps++
}

// framed evaluates a node with a frame: whether that is given a value, or unwound, is one step.
func (m *model) framed(n api.Node, env names, at *routine) (api.Value, api.Errno) {
	v, e := m.eval(n, env, at)
	m.tick()
	return v, e
}

func (m *model) eval(n api.Node, env names, at *routine) (api.Value, api.Errno) {
	m.tick()
	switch n.Kind {
	case api.NodeInt, api.NodeBool, api.NodeStr, api.NodeUnit:
		tags := map[uint8]uint8{api.NodeInt: api.Int, api.NodeBool: api.Bool, api.NodeStr: api.Str}
		return api.Value{Tag: tags[n.Kind], N: n.N, S: n.Text}, api.OK
	case api.NodeVar:
		return env[n.Text], api.OK
	case api.NodeFun:
		return m.heap.Make(api.Fun, &held{node: n, env: env})
	case api.NodeLet:
		v, e := m.framed(n.Kids[0], env, at)
		if e != api.OK {
			return v, e
		}
		return m.eval(n.Kids[1], env.with(n.Text, v), at)
	case api.NodeIf:
		v, e := m.framed(n.Kids[0], env, at)
		if e != api.OK {
			return v, e
		}
		if v.Tag != api.Bool {
			return v, api.ErrTag
		}
		return m.eval(n.Kids[2-v.N], env, at)
	case api.NodeHandle:
		return m.handle(n, env, at)
	case api.NodeWind:
		if v, e := m.framed(n.Kids[0], env, at); e != api.OK {
			return v, e
		}
		return m.opened(n.Kids[1], n, 2, env, at)
	}
	var l []api.Value
	for _, kid := range n.Kids {
		v, e := m.framed(kid, env, at)
		if e != api.OK {
			return v, e
		}
		l = append(l, v)
	}
	return m.apply(n, l, at)
}

// opened evaluates a node with a wind or a finally open around it, whose part is done then, however it ends.
func (m *model) opened(n, around api.Node, part int, env names, at *routine) (api.Value, api.Errno) {
	at.opened = append(at.opened, open{around, env})
	var v api.Value
	var e api.Errno
	if around.Kind == api.NodeFinally {
		v, e = m.drive(m.start(n, env, at), at)
	} else {
		v, e = m.eval(n, env, at)
	}
	m.tick()
	at.opened = at.opened[:len(at.opened)-1]
	if w, f := m.framed(around.Kids[part], env, at); f != api.OK {
		return w, f
	}
	return v, e
}

func (m *model) handle(n api.Node, env names, at *routine) (api.Value, api.Errno) {
	if last := n.Kids[len(n.Kids)-1]; last.Kind == api.NodeFinally {
		return m.opened(n, last, 0, env, at)
	}
	return m.drive(m.start(n, env, at), at)
}

func (m *model) start(n api.Node, env names, at *routine) *routine {
	r := &routine{handle: n, env: env, outer: at}
	next, stop := iter.Pull(func(yield func(event) bool) {
		defer func() {
			if thrown := recover(); thrown != nil && thrown != (gone{}) {
				panic(thrown)
			}
		}()
		r.yield = yield
		v, e := m.eval(n.Kids[0], env, r)
		yield(event{ended: true, v: v, e: e})
	})
	r.next = next
	m.stops = append(m.stops, stop)
	return r
}

// rest lets a routine rest until it is handed something.
func (r *routine) rest(why event) api.Value {
	if !r.yield(why) {
		panic(gone{})
	}
	return r.handed
}

func (r *routine) clause(kind uint8, op string) (api.Node, bool) {
	i := slices.IndexFunc(r.handle.Kids, func(n api.Node) bool { return n.Kind == kind && (kind != api.NodeOn || n.Text == op) })
	if i < 1 {
		return api.Node{}, false
	}
	return r.handle.Kids[i], true
}

// drive lets a routine go on, for one that waits for it, until its handle is gone.
func (m *model) drive(r, at *routine) (api.Value, api.Errno) {
	for r.outer = at; ; {
		why, _ := r.next()
		if why.ended {
			m.tick()
			back, ok := r.clause(api.NodeReturn, "")
			if why.e != api.OK || !ok {
				return why.v, why.e
			}
			return m.eval(back.Kids[0], r.env.with(back.Names[0], why.v), at)
		}
		why.routines = append(why.routines, r)
		if on, ok := r.clause(api.NodeOn, why.op); ok {
			k, e := m.heap.Make(api.Cont, &held{routines: why.routines})
			if e != api.OK {
				panic("the model has no room")
			}
			for _, r := range why.routines {
				if v, e := m.all(r.opened, true, api.NodeWind, 2, at); e != api.OK {
					return v, e
				}
			}
			return m.eval(on.Kids[0], r.env.with(on.Names[0], why.v).with(on.Names[1], k), at)
		}
		r.handed = at.rest(why)
	}
}

// all does a part of those that are open and of a kind, from behind or not.
func (m *model) all(l []open, behind bool, kind uint8, part int, at *routine) (api.Value, api.Errno) {
	l = slices.Clone(l)
	if behind {
		slices.Reverse(l)
	}
	for _, o := range l {
		if o.node.Kind != kind {
			continue
		}
		if v, e := m.framed(o.node.Kids[part], o.env, at); e != api.OK {
			return v, e
		}
	}
	return api.Value{}, api.OK
}

func (m *model) apply(n api.Node, l []api.Value, at *routine) (api.Value, api.Errno) {
	switch n.Kind {
	case api.NodeDo:
		return l[len(l)-1], api.OK
	case api.NodePrim:
		return m.prim(n.Text, l)
	case api.NodeCall:
		f, e := m.heap.Thing(l[0])
		if e != api.OK || l[0].Tag != api.Fun {
			return api.Value{}, api.ErrTag
		}
		if len(f.node.Names) != len(l)-1 {
			return api.Value{}, api.ErrArity
		}
		env := f.env.with(f.node.Text, l[0])
		for i, name := range f.node.Names {
			env[name] = l[i+1]
		}
		return m.eval(f.node.Kids[0], env, at)
	case api.NodePerform:
		for r := at; r.outer != nil; r = r.outer {
			if _, ok := r.clause(api.NodeOn, n.Text); ok {
				return at.rest(event{op: n.Text, v: l[0]}), api.OK
			}
		}
		return api.Value{}, api.ErrEffect
	}
	return m.goOn(n.Kind, l[0], l[1], at)
}

// goOn resumes or drops.
func (m *model) goOn(kind uint8, k, v api.Value, at *routine) (api.Value, api.Errno) {
	c, e := m.heap.Thing(k)
	if e != api.OK || k.Tag != api.Cont {
		return api.Value{}, api.ErrTag
	}
	l := c.routines
	if l == nil {
		return api.Value{}, api.ErrUsed
	}
	c.routines = nil
	if kind == api.NodeDrop {
		for _, r := range l {
			if v, e := m.all(r.opened, true, api.NodeFinally, 0, at); e != api.OK {
				return v, e
			}
		}
		return v, api.OK
	}
	for _, r := range slices.Backward(l) {
		if v, e := m.all(r.opened, false, api.NodeWind, 0, at); e != api.OK {
			return v, e
		}
	}
	// Those between hand it further in.
	outermost := l[len(l)-1]
	outermost.handed = v
	return m.drive(outermost, at)
}

func (m *model) prim(word string, l []api.Value) (api.Value, api.Errno) {
	switch word {
	case "in":
		if len(m.inputs) == 0 {
			return api.Value{}, api.ErrInput
		}
		v := m.inputs[0]
		m.inputs = m.inputs[1:]
		return v, api.OK
	case "out":
		m.o.Trace = append(m.o.Trace, show.Show(m.heap, l[0]))
		return api.Value{}, api.OK
	case "pair":
		return m.heap.Pair(l[0], l[1])
	case "fst":
		return m.heap.Fst(l[0])
	case "snd":
		return m.heap.Snd(l[0])
	case "cell":
		return m.heap.Cell(l[0])
	case "get":
		return m.heap.Get(l[0])
	case "set":
		return api.Value{}, m.heap.Set(l[0], l[1])
	}
	if len(l) == 1 {
		return value.One(word, l[0])
	}
	return value.Two(word, l[0], l[1])
}
