package calc_test

import "testing"

func TestHandle(t *testing.T) { // P8.1
	ends(t, "(handle 5)", "done 5 in 3")
	ends(t, "(handle 5 (return x (pair x x)))", "done (5 . 5) in 8")
	ends(t, "(handle 5 (finally 6))", "done 5 in 6")
	ends(t, "(handle 5 (return x (do (out x) 7)) (on A x k 8) (finally (out 9)))", "out 5; out 9; done 7 in 15")
	// The handle is gone where its clauses are done, but not its finally.
	ends(t, "(handle 5 (return x (perform A x)) (on A x k 8) (finally (out 9)))", "out 9; wrong 8 in 11")
	ends(t, "(handle (handle 5 (return x (perform A 1)) (on A x k 6)) (on A x k 7))", "done 7 in 8")
	ends(t, "(handle (handle 5 (finally (perform A 1))) (on A x k 7))", "done 7 in 9")
}

func TestPerform(t *testing.T) { // P8.1
	ends(t, "(perform A 1)", "wrong 8 in 3")
	ends(t, "(handle (perform A 1) (on A x k x))", "done 1 in 5")
	ends(t, "(handle (perform A 1) (on B x k x))", "wrong 8 in 5")
	ends(t, "(handle (perform A (out 1)) (on A x k x))", "out 1; done () in 7")
	ends(t, "(handle (perform B 1) (on A x k (pair x 2)) (on B y l (pair y 3)) (on C x k (pair x 4)))", "done (1 . 3) in 9")
	// What comes behind isn't done, the return neither.
	ends(t, "(handle (do (out 1) (perform A 7) (out 2)) (return x 0) (on A x k x) (finally (out 3)))", "out 1; out 3; done 7 in 15")
	// The nearest handle that has it.
	ends(t, "(handle (handle (perform A 1) (on A x k (pair x 2))) (on A x k (pair x 3)))", "done (1 . 2) in 11")
	ends(t, "(handle (handle (perform A 1) (return x 4) (on B x k (pair x 2))) (on A x k (pair x 3)))", "done (1 . 3) in 10")
	// A clause is outside of its handle.
	ends(t, "(handle (handle (perform A 1) (on A x k (perform A 2))) (on A x k (pair x 3)))", "done (2 . 3) in 13")
	ends(t, "(handle (perform A 1) (on A x k (perform A x)))", "wrong 8 in 7")
	ends(t, "(call (fun f () (perform A 1)))", "wrong 8 in 6")
}

func TestResume(t *testing.T) { // P8.1
	ends(t, "(handle (perform A 1) (on A x k (resume k x)))", "done 1 in 10")
	ends(t, "(handle (+ (perform A 1) (perform A 2)) (on A x k (resume k (* x 10))))", "done 30 in 29")
	ends(t, "(handle (do (out (perform A 1)) 5) (return x (pair x x)) (on A x k (pair (resume k 2) 3)))", "out 2; done ((5 . 5) . 3) in 25")
	// The handle comes back with its frames, wherever that is.
	ends(t, "(let k (handle (do (perform A 1) (perform A 2)) (on A x k (do (out x) k))) (let l (resume k 0) (handle (resume l 9) (return x (pair x x)))))",
		"out 1; out 2; done (9 . 9) in 46")
	ends(t, "(let k (handle (do (perform A 1) (perform B 2)) (on A x k k)) (handle (resume k 0) (on B x l (pair x 7))))", "done (2 . 7) in 23")
	// Who resumes goes on where that ends.
	ends(t, "(handle (do (perform A 1) (out 1) 5) (on A x k (do (out 0) (out (resume k 2)) 6)))", "out 0; out 1; out 5; done 6 in 28")
	ends(t, "(resume (do (out 1) 5) (out 2))", "out 1; out 2; wrong 2 in 13")
	ends(t, "(resume (fun f (x) x) 1)", "wrong 2 in 5")
	ends(t, "(resume unit (perform A 1))", "wrong 8 in 7")
}

func TestUsedOnce(t *testing.T) { // P8.1
	ends(t, "(handle (perform A 1) (on A x k (do (resume k 2) (resume k 3))))", "wrong 7 in 18")
	ends(t, "(handle (perform A 1) (on A x k (do (resume k 2) (drop k 3))))", "wrong 7 in 18")
	ends(t, "(handle (perform A 1) (on A x k (do (drop k 2) (resume k 3))))", "wrong 7 in 17")
	ends(t, "(handle (perform A 1) (on A x k (do (drop k 2) (drop k 3))))", "wrong 7 in 17")
	ends(t, "(handle (perform A 1) (on A x k (resume k k)))", "done #cont in 10")
	// It is used from when it is resumed, not from when that ends; each time that it is performed there is a new one.
	ends(t, "(let c (cell unit) (handle (do (perform A 1) (resume (get c) 3)) (on A x k (do (set c k) (resume k 2)))))", "wrong 7 in 33")
	ends(t, "(let c (cell unit) (handle (wind (if (= (get c) unit) unit unit) (perform A 1) unit) (on A x k (do (set c k) (resume k 2)))))", "wrong 2 in 46")
	ends(t, "(let c (cell unit) (let b (cell false) (handle (wind (if (get b) (resume (get c) 3) unit) (perform A 1) (out 8)) (on A x k (do (set c k) (set b true) (resume k 2))))))", "out 8; wrong 7 in 58")
	ends(t, "(handle (do (perform A 1) (perform A 2) 5) (on A x k (resume k x)))", "done 5 in 23")
}

func TestDrop(t *testing.T) { // P8.1
	ends(t, "(handle (perform A 1) (on A x k (drop k 8)))", "done 8 in 9")
	ends(t, "(handle (handle (perform A 1) (finally (out 5))) (on A x k (drop k 8)))", "out 5; done 8 in 14")
	// From the inside out; the finally of the clause's own handle isn't in it, and comes behind.
	ends(t, "(handle (handle (handle (perform A 1) (finally (out 5))) (finally (out 6))) (on A x k (do (out 4) (drop k 8))) (finally (out 7)))",
		"out 4; out 5; out 6; out 7; done 8 in 30")
	ends(t, "(let y 3 (handle (let y 4 (handle (let y 5 (perform A y)) (finally (out y)))) (on A x k (drop k x))))", "out 4; done 5 in 23")
	// No wind is entered or left by it.
	ends(t, "(handle (wind (out 1) (perform A 1) (out 2)) (on A x k (do (out 3) (drop k 8))))", "out 1; out 2; out 3; done 8 in 24")
	// An error in a finally ends it, and those that are further out don't come.
	ends(t, "(handle (handle (handle (perform A 1) (finally (/ 1 0))) (finally (out 6))) (on A x k (drop k 8)))", "wrong 4 in 17")
	// A finally may perform, and comes back.
	ends(t, "(handle (handle (handle (handle (perform A 1) (finally (do (perform B 1) (out 5)))) (finally (out 6))) (on A x k (drop k 8))) (on B x k (do (out 0) (resume k x))))",
		"out 0; out 5; out 6; done 8 in 38")
	ends(t, "(drop (do (out 1) 5) (out 2))", "out 1; out 2; wrong 2 in 13")
	ends(t, "(drop (fun f (x) x) 1)", "wrong 2 in 5")
}

func TestWind(t *testing.T) { // P8.1
	ends(t, "(wind 1 2 3)", "done 2 in 7")
	ends(t, "(wind (out 1) (do (out 2) 5) (out 3))", "out 1; out 2; out 3; done 5 in 17")
	ends(t, "(wind (out 1) (/ 1 0) (out 2))", "out 1; out 2; wrong 4 in 15")
	ends(t, "(wind unit (/ 1 0) (call unit))", "wrong 2 in 13")
	ends(t, "(wind (/ 1 0) (out 1) (out 2))", "wrong 4 in 7") // never entered, so never left
	ends(t, "(wind (out 1) (out 2) (/ 1 0))", "out 1; out 2; wrong 4 in 15")
	ends(t, "(wind (out 1) (wind (out 2) 5 (out 3)) (out 4))", "out 1; out 2; out 3; out 4; done 5 in 21")
}

func TestPerformAcrossWinds(t *testing.T) { // P8.1
	ends(t, "(handle (wind (out 1) (+ (perform A 1) 10) (out 2)) (on A x k (do (out 3) x)))", "out 1; out 2; out 3; done 1 in 21")
	ends(t, "(handle (wind (out 1) (+ (perform A 1) 10) (out 2)) (on A x k (do (out 3) (resume k 4))))",
		"out 1; out 2; out 3; out 1; out 2; done 14 in 38")
	// Left from the inside out, entered from the outside in; those that are outside of the handle, or in the clause, stay.
	ends(t, "(wind (out 0) (handle (wind (out 1) (wind (out 2) (perform A 1) (out 3)) (out 4)) (on A x k (wind (out 5) (resume k 7) (out 6)))) (out 9))",
		"out 0; out 1; out 2; out 3; out 4; out 5; out 1; out 2; out 3; out 4; out 6; out 9; done 7 in 66")
	// A perform on the way in is of a wind that isn't entered yet, one on the way out of one that is left.
	ends(t, "(handle (wind (perform A 1) (out 2) (out 3)) (on A x k (do (out 0) (resume k 9))))", "out 0; out 2; out 3; done () in 26")
	ends(t, "(handle (wind (out 1) (out 2) (perform A 3)) (on A x k (do (out 0) (resume k 9))))", "out 1; out 2; out 0; done () in 26")
	// What an after comes to is dropped; where it performs by itself, the way out goes on when that is resumed.
	ends(t, "(handle (handle (wind 1 (wind 2 (perform A 5) (do (perform B 6) (out 7))) (out 8)) (on A x k (pair x 0))) (on B x k (do (out x) (resume k 3))))",
		"out 6; out 7; out 8; done (5 . 0) in 42")
	// And where it isn't, it doesn't.
	ends(t, "(handle (handle (wind 1 (wind 2 (perform A 5) (perform B 6)) (out 8)) (on A x k (pair x 0))) (on B x k (pair x 1)))", "done (6 . 1) in 19")
	// An error in an after: the clause isn't done, nor are the afters further out.
	ends(t, "(handle (wind 1 (wind 2 (perform A 5) (/ 1 0)) (out 8)) (on A x k (out 9)) (finally (out 4)))", "out 4; wrong 4 in 21")
	// An error in a before: the frames aren't put back.
	ends(t, "(let b (cell 1) (handle (wind (out 1) (wind (/ 1 (get b)) (perform A 5) (out 2)) (out 3)) (on A x k (do (set b 0) (resume k 4))) (finally (out 4))))",
		"out 1; out 2; out 3; out 1; out 4; wrong 4 in 61")
}

func TestErrorsUnwind(t *testing.T) { // P8.1
	ends(t, "(handle (/ 1 0) (return x (out 1)) (on A x k 2) (finally (out 3)))", "out 3; wrong 4 in 12")
	ends(t, "(handle (wind (out 1) (handle (/ 1 0) (finally (out 2))) (out 3)) (finally (out 4)))", "out 1; out 2; out 3; out 4; wrong 4 in 29")
	// An error within goes on with the new one.
	ends(t, "(handle (wind 1 (/ 1 0) (neg true)) (finally (out 4)))", "out 4; wrong 2 in 20")
	ends(t, "(handle (wind 1 (/ 1 0) (out 2)) (finally (perform A 1)))", "out 2; wrong 8 in 20")
	ends(t, "(wind 1 (wind 2 (call 3) (in)) (shl 1 64))", "wrong 5 in 19")
	// What an after performs by the way leaves the error as it is.
	ends(t, "(handle (wind 1 (/ 1 0) (out (perform A 5))) (on A x k (resume k (+ x 1))))", "out 6; wrong 4 in 26")
	// But a clause that isn't for going on has taken the error off with the frames.
	ends(t, "(handle (wind 1 (/ 1 0) (perform A 5)) (on A x k (pair x 0)))", "done (5 . 0) in 18")
	// Dropped, it is gone as well; a finally that the error is past doesn't come again.
	ends(t, "(handle (handle (/ 1 0) (finally (perform A 5))) (on A x k (drop k x)))", "done 5 in 17")
	// The finally of a handle covers its clauses, and where a Cont is resumed the frames of who resumes come behind.
	ends(t, "(handle (perform A 1) (on A x k (/ 1 0)) (finally (out 1)))", "out 1; wrong 4 in 14")
	ends(t, "(handle (+ 1 (perform A 1)) (on A x k (wind (out 1) (resume k true) (out 2))) (finally (out 3)))", "out 1; out 2; out 3; wrong 2 in 29")
}
