package calc

import (
	"sacristan/api"
	"sacristan/heap"
	"sacristan/show"
)

// turn is what a machine's next step is.
type turn uint8

const (
	evaluating turn = iota // a node
	giving                 // a value, to the nearest frame
	unwinding              // the nearest frame, by an error
)

// machine is what a program is run by. What a step comes to is kept here as the next one's turn, and isn't called within it: so the stack is the frames alone, however many these are.
type machine struct {
	heap    *heap.Heap[*thing]
	nearest *frame // the others are told by it
	inputs  []api.Value
	trace   []string
	steps   int

	turn  turn
	place place
	value api.Value
	err   api.Errno
}

// thing is what stands in the heap: for a Fun its place; for a Cont the nearest and the farthest one of its frames, nil when it was resumed or dropped.
type thing struct {
	place
	nearest, farthest *frame
}

// next lets a node be evaluated next.
func (m *machine) next(n *api.Node, env *environment) { m.turn, m.place = evaluating, place{n, env} }

// give lets a value be given next.
func (m *machine) give(v api.Value) { m.turn, m.value = giving, v }

// fail lets an error unwind next.
func (m *machine) fail(e api.Errno) { m.turn, m.err = unwinding, e }

// answer gives what something came to, or fails with its error.
func (m *machine) answer(v api.Value, e api.Errno) {
	if e != api.OK {
		m.fail(e)
		return
	}
	m.give(v)
}

func (m *machine) step() {
	switch m.turn {
	case evaluating:
		m.evaluate(m.place.node, m.place.env)
	case giving:
		m.pop().given(m.value)
	case unwinding:
		m.unwind(m.pop(), m.err)
	}
}

// full tells whether a heap had no room: that isn't the language's error, so it unwinds nothing.
func (m *machine) full() bool { return m.turn == unwinding && m.err == api.ErrHeap }

func (m *machine) ended() bool {
	return m.full() || m.turn != evaluating && m.nearest == nil
}

// outcome is how it ended; or, if it hasn't, that the steps were too few.
func (m *machine) outcome() api.Outcome {
	o := api.Outcome{Trace: m.trace, Steps: m.steps}
	switch {
	case !m.ended():
		o.State, o.Err = api.Spent, api.ErrFuel
	case m.full():
		o.State, o.Err = api.Spent, api.ErrHeap
	case m.turn == unwinding:
		o.State, o.Err = api.Wrong, m.err
	default:
		o.State, o.Text = api.Done, show.Show(m.heap, m.value)
	}
	return o
}
