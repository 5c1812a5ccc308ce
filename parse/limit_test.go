package parse_test

import (
	"fmt"
	"strings"
	"testing"

	"sacristan/api"
)

// firsts are what nodes begin with, and more: one that is too deep, or one too many, is told where it begins, whatever stands behind that.
func firsts() []string {
	return []string{"x", "5", "-1", `"a"`, "true", "false", "unit", "(in)", "(do x)", "(", "((", "()", "(5)", "(weird)", "(return x x)", "(handle", "fun"}
}

func TestTooDeep(t *testing.T) { // P6.1
	for _, outer := range []string{"(do ", "(neg ", "(+ x ", "(fun f (x y) ", "(fun f () ", "(let x ", "(let x 1 ", "(call ", "(call x x ", "(if 1 ", "(perform A ", "(handle ", "(resume ", "(drop x ", "(wind x "} {
		ahead := strings.Repeat(outer, 59)
		// The sixtieth may have parts that are nodes no more: where the first one begins is told.
		inner := strings.Index(outer, " ") + 1
		switch {
		case strings.HasPrefix(outer, "(fun"):
			inner = len(outer)
		case strings.HasPrefix(outer, "(let"), strings.HasPrefix(outer, "(perform"):
			inner = strings.Index(outer[inner:], " ") + inner + 1
		}
		head := ahead + outer[:inner]
		for _, first := range firsts() {
			stopped(t, head+first, len(head), api.ErrLong)
		}
		stopped(t, head, len(head), api.ErrShort)
		stopped(t, head+")", len(head), api.ErrForm) // a closing bracket begins no node
		stopped(t, ahead+"(weird", len(ahead)+1, api.ErrForm)
		stopped(t, ahead+"(in", len(ahead)+3, api.ErrShort)
		stopped(t, ahead+"(in)", len(ahead)+4, api.ErrShort)
	}
}

func TestJustDeepEnough(t *testing.T) { // P6.1, P6.2
	ahead, behind := strings.Repeat("(do ", 58), strings.Repeat(")", 58)
	for _, inner := range []string{"x", "(in)", "(do 5)", "(fun f (a b) true)", `(wind "a" (in) unit)`, "(handle x)"} {
		back(t, ahead+inner+behind)
	}
	back(t, ahead+"(do x x unit"+strings.Repeat(") (in) x", 58)+")")
	// A clause is a node: what is within it is two deeper than the handle.
	for _, clause := range []string{"(return x ", "(on A x k ", "(finally "} {
		src := ahead + "(handle x " + clause
		stopped(t, src+"x))", len(src), api.ErrLong)
		stopped(t, src+"(", len(src), api.ErrLong)
		stopped(t, src+")", len(src), api.ErrForm)
		back(t, ahead[4:]+"(handle x "+clause+"x))"+behind[1:])
		stopped(t, ahead[4:]+"(handle x "+clause+"(do x", len(src), api.ErrLong)
		nested := strings.Repeat("(handle x "+clause, 29)
		back(t, nested+"(do x)"+strings.Repeat("))", 29))
		stopped(t, nested+"(do (neg x", len(nested)+9, api.ErrLong)
	}
	stopped(t, "(do "+ahead+"(handle x", len(ahead)+4+8, api.ErrLong)
}

// some is a source of a do with so many parts, open at its end.
func some(parts int) string { return "(do " + strings.Repeat("x ", parts) }

func TestTooMany(t *testing.T) { // P6.1
	full := some(3999)
	for _, first := range firsts() {
		stopped(t, full+first, len(full), api.ErrLong)
		stopped(t, full+first+strings.Repeat(" (", 99), len(full), api.ErrLong)
	}
	stopped(t, full, len(full), api.ErrShort)
	back(t, full[:len(full)-1]+")")
	stopped(t, full+") x", len(full)+2, api.ErrForm)
	stopped(t, full+") (", len(full)+2, api.ErrForm)
	back(t, some(3998)+"unit)")
	back(t, some(3998)+"(in))")
	back(t, some(3997)+"(neg 5))")
	back(t, some(3997)+"(fun f (a b c d) 5))")
	for src, at := range map[string]int{"(neg 5)": 5, "(+ (": 3, "(handle (in) 5": 8, "(fun f (a b c) (": 15, "(let x 1": 7, "(perform x \"": 11} {
		src = strings.TrimSuffix(src, "\"") + strings.Repeat(`""`, strings.Count(src, "\""))
		stopped(t, some(3998)+src, len(some(3998))+at, api.ErrLong)
	}
	// Where no node may begin it is no matter how many there are.
	stopped(t, some(3998)+"(in x)", len(some(3998))+4, api.ErrForm)
	stopped(t, some(3998)+"(weird", len(some(3998))+1, api.ErrForm)
	stopped(t, some(3997)+"(neg 1 (", len(some(3997))+7, api.ErrForm)
	stopped(t, some(3998)+"(fun f (a a", len(some(3998))+10, api.ErrForm)
}

func TestTooManyClauses(t *testing.T) { // P6.1
	for _, clauses := range []string{"", "(return x ", "(on B x k ", "(finally "} {
		// All but the clause and its part: one more node is one too many.
		ahead := "(handle " + strings.TrimSuffix(some(3996), " ") + ") "
		if clauses != "" {
			back(t, ahead+clauses+"x))")
			stopped(t, ahead+clauses+"(do x", len(ahead+clauses)+4, api.ErrLong)
			ahead += clauses + "x) "
		} else {
			ahead = "(handle " + strings.TrimSuffix(some(3998), " ") + ") "
		}
		for _, more := range []string{"(", "((", "(5", "(return x x)", "(on A x k x)", "(finally x)", "(weird)"} { // whatever stands behind the bracket
			stopped(t, ahead+more, len(ahead), api.ErrLong)
		}
		for _, other := range []string{"x", "5", `"a"`, "unit"} { // these begin no clause
			stopped(t, ahead+other, len(ahead), api.ErrForm)
		}
		back(t, strings.TrimSuffix(ahead, " ")+")")
	}
	var b strings.Builder
	b.WriteString("(handle x")
	for i := range 1999 {
		fmt.Fprintf(&b, " (on A%d x k x)", i)
	}
	back(t, b.String()+")")
	stopped(t, b.String()+" (on A1999 x k x))", b.Len()+1, api.ErrLong)
	stopped(t, b.String()+" (on A1998 x k x))", b.Len()+1, api.ErrLong)
	stopped(t, b.String()[:b.Len()-len(" (on A1998 x k x)")]+" (on A7 x k x)", b.Len()-len("A1998 x k x)"), api.ErrForm)
}
