package calc_test

import (
	"fmt"
	"math"
	"slices"
	"strings"
	"testing"

	"sacristan/api"
	"sacristan/calc"
	"sacristan/value"
)

// runs holds how a program ends, where it takes too many steps to be run with each number of them.
func runs(t *testing.T, src string, steps int, want string) {
	t.Helper()
	if got := told(calc.Run(read(t, src), nil, steps)); got != want {
		t.Errorf("%.300s, %d steps:\n got %.900s\nwant %.900s", src, steps, got, want)
	}
}

func TestStepsAreTooFew(t *testing.T) { // P8.1
	for _, steps := range []int{0, -1, -1000, math.MinInt} {
		runs(t, "5", steps, "spent 15 in 0")
		runs(t, "(in)", steps, "spent 15 in 0")
	}
	runs(t, "5", 1, "done 5 in 1")
	// An error has to come to its end, too.
	runs(t, "(neg (in))", 1, "spent 15 in 1")
	runs(t, "(neg (in))", 2, "spent 15 in 2")
	runs(t, "(neg (in))", 3, "wrong 9 in 3")
	runs(t, "(wind 1 (in) (out 2))", 8, "out 2; spent 15 in 8")
	runs(t, "(wind 1 (in) (out 2))", 9, "out 2; wrong 9 in 9")
}

func TestWhatDoesNotEnd(t *testing.T) { // P8.1, P8.2
	for _, src := range []string{
		"(call (fun f () (call f)))",
		"(call (fun f () (+ 1 (call f))))",
		"(handle (call (fun f () (do (perform A 1) (call f)))) (on A x k (resume k x)))",
		"(call (fun f () (handle (call f) (finally (out 1)))))",
		"(call (fun f () (handle (perform A 1) (on A x k (wind 1 (resume k (call f)) 2)))))",
		"(let c (cell unit) (let f (fun f (x) (call (get c) x)) (do (set c f) (call f 1))))",
	} {
		for _, steps := range []int{0, 1, 10, 1000, 30000} {
			runs(t, src, steps, fmt.Sprintf("spent 15 in %d", steps))
		}
	}
	loop := "(call (fun f (n) (do (out n) (call f (+ n 1)))) 0)"
	var trace []string
	for steps := range 600 {
		o := calc.Run(read(t, loop), nil, steps)
		if len(o.Trace) < len(trace) || !slices.Equal(o.Trace[:len(trace)], trace) {
			t.Fatalf("with %d steps %v is put out, behind %v", steps, o.Trace, trace)
		}
		trace = o.Trace
	}
	if len(trace) < 40 || trace[39] != "39" {
		t.Errorf("put out: %v", trace)
	}
}

// TestDeep has far more frames than may stand in one another in a source.
func TestDeep(t *testing.T) { // P8.1, P0.1
	count := func(body string, n int) string {
		return fmt.Sprintf("(call (fun f (n) (if (< n 1) %s)) %d)", body, n)
	}
	runs(t, count("0 (+ 1 (call f (- n 1)))", 100000), math.MaxInt, "done 100000 in 2000013")
	runs(t, count("(/ 1 0) (+ 1 (call f (- n 1)))", 100000), math.MaxInt, "wrong 4 in 2000017")
	runs(t, count("0 (handle (call f (- n 1)))", 100000), math.MaxInt, "done 0 in 1800013")
	runs(t, count("(perform A 1) (handle (call f (- n 1)) (return x (+ x 1)) (on B x k 1))", 50000), math.MaxInt, "wrong 8 in 900015")
	runs(t, "(handle "+count("(+ 1 (perform A 1)) (wind 1 (+ 1 (call f (- n 1))) 2)", 30000)+" (on A x k (resume k 7)))", math.MaxInt, "done 30008 in 900026")
	runs(t, "(handle "+count("(+ 1 (perform A 1)) (handle (call f (- n 1)) (finally 1))", 30000)+" (on A x k (drop k 7)))", math.MaxInt, "done 7 in 570024")
	// Where nothing is left to do behind a call no frame stays.
	runs(t, count("(out 5) (call f (- n 1))", 300000), math.MaxInt, "out 5; done () in 4800015")
}

// TestManyConts performs again and again, with ever more frames on the stack.
func TestManyConts(t *testing.T) { // P8.1
	loop := "(handle (call (fun f (n) (if (< n 1) (perform A 9) (do (perform A n) (call f (- n 1))))) 100000) (on A x k (if (< 0 0) k (resume k x))))"
	runs(t, loop, math.MaxInt, "done 9 in 3400029")
}

// fills is a program that makes so many things, and ends with 7.
func fills(maker string, things int) string {
	const row = 512
	things-- // the function that makes the others is one
	full := "(let go (fun go (n) (if (< n 1) unit (do " + strings.Repeat(maker+" ", row) + "(call go (- n 1))))) "
	full += fmt.Sprintf("(do (call go %d) ", things/row)
	return full + strings.Repeat(maker+" ", things%row) + "7))"
}

func TestHeap(t *testing.T) { // P8.1
	for _, maker := range []string{"(cell 1)", "(pair 1 2)", "(fun g () 1)"} {
		full := calc.Run(read(t, fills(maker, api.MaxHeap)), nil, math.MaxInt)
		if full.State != api.Done || full.Text != "7" {
			t.Errorf("%s: %s, want done 7", maker, told(full))
		}
		over := calc.Run(read(t, fills(maker, api.MaxHeap+1)), nil, math.MaxInt)
		if want := fmt.Sprintf("spent %d in %d", int(api.ErrHeap), over.Steps); told(over) != want || over.Steps >= full.Steps+10 {
			t.Errorf("%s: %s, want %s", maker, told(over), want)
		}
	}
}

// That a thing has no room is met at a step, and until then it is the steps that aren't enough.
func TestStepsAheadOfTheHeapsEnd(t *testing.T) { // P8.1, P8.2
	n := read(t, fills("(fun g () 1)", api.MaxHeap+1))
	o := calc.Run(n, nil, math.MaxInt)
	for steps, e := range map[int]api.Errno{o.Steps - 1: api.ErrFuel, o.Steps: api.ErrHeap} {
		if got, want := told(calc.Run(n, nil, steps)), fmt.Sprintf("spent %d in %d", int(e), steps); got != want {
			t.Errorf("%s, want %s", got, want)
		}
	}
}

// What has no room isn't an error of the language: nothing is unwound, and no clause is done.
func TestHeapUnwindsNothing(t *testing.T) { // P8.1
	filled := strings.TrimSuffix(fills("(fun g () 1)", api.MaxHeap), "7))")
	for _, last := range []string{"(cell 1)", "(pair 1 2)", "(fun f () 1)", "(perform A 3)", "(call (fun f () 1))"} {
		o := calc.Run(read(t, "(handle "+filled+"(wind (out 1) "+last+" (out 2)))) (on A x k (out x)) (finally (out 4)))"), nil, math.MaxInt)
		if want := fmt.Sprintf("out 1; spent %d in %d", int(api.ErrHeap), o.Steps); told(o) != want {
			t.Errorf("%s: %s, want %s", last, told(o), want)
		}
	}
	// Nor is it asked for where there is an error ahead of it.
	o := calc.Run(read(t, "(handle "+filled+"(wind (out 1) (perform B 3) (out 2)))) (on A x k (out x)) (finally (out 4)))"), nil, math.MaxInt)
	if want := fmt.Sprintf("out 1; out 2; out 4; wrong %d in %d", int(api.ErrEffect), o.Steps); told(o) != want {
		t.Errorf("an operation that nobody has: %s, want %s", told(o), want)
	}
}

// Runs have nothing in common: each has a heap and inputs of its own.
func TestRunsAreAlone(t *testing.T) { // P0.5
	n := read(t, "(let c (cell (in)) (do (set c (+ (get c) 1)) (out (get c)) (pair (get c) (in))))")
	want := told(calc.Run(n, []api.Value{value.Of(1), value.Of(2)}, 100))
	calc.Run(n, []api.Value{value.Text("x")}, 100)
	calc.Run(read(t, fills("(cell 1)", 5000)), nil, math.MaxInt)
	if got := told(calc.Run(n, []api.Value{value.Of(1), value.Of(2)}, 100)); got != want || !strings.HasPrefix(got, "out 2; done (2 . 2) in ") {
		t.Errorf("%s, want %s", got, want)
	}
}
