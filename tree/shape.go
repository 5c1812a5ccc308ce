package tree

import (
	"math"

	"sacristan/api"
	"sacristan/lex"
)

// taking is a word of a NodePrim, and how many parts it takes.
type taking struct {
	word  string
	parts int
}

var words = [...]taking{
	{"in", 0},
	{"neg", 1}, {"not", 1}, {"len", 1},
	{"i8", 1}, {"i16", 1}, {"i32", 1}, {"u8", 1}, {"u16", 1}, {"u32", 1},
	{"fst", 1}, {"snd", 1}, {"cell", 1}, {"get", 1}, {"out", 1},
	{"+", 2}, {"-", 2}, {"*", 2}, {"/", 2}, {"%", 2},
	{"and", 2}, {"or", 2}, {"xor", 2}, {"shl", 2}, {"shr", 2}, {"ushr", 2},
	{"<", 2}, {"=", 2}, {"cat", 2}, {"at", 2}, {"pair", 2}, {"set", 2},
}

// span is the least and the greatest of what may be: at first 0 alone, for what isn't told of a kind.
type span struct{ least, most int64 }

func (s span) has(n int64) bool { return n >= s.least && n <= s.most }

func exactly(n int64) span { return span{n, n} }

func from(n int64) span { return span{n, math.MaxInt64} }

// shape is what nodes of a kind have: the word behind their bracket (of a NodePrim that is its text), their numbers, how many names and parts, and whether a text is right.
type shape struct {
	head                 string
	number, names, parts span
	text                 func(s string) bool
}

// shapes are the kinds' shapes.
func shapes() map[uint8]shape {
	none := func(s string) bool { return s == "" }
	short := func(s string) bool { return len(s) <= api.MaxText }
	prim := func(s string) bool { return Takes(s) >= 0 }
	return map[uint8]shape{
		api.NodeInt:     {text: none, number: from(math.MinInt64)},
		api.NodeBool:    {text: none, number: span{0, 1}},
		api.NodeStr:     {text: short},
		api.NodeUnit:    {text: none},
		api.NodeVar:     {text: name},
		api.NodeFun:     {head: "fun", text: name, names: from(0), parts: exactly(1)},
		api.NodeCall:    {head: "call", text: none, parts: from(1)},
		api.NodeLet:     {head: "let", text: name, parts: exactly(2)},
		api.NodeIf:      {head: "if", text: none, parts: exactly(3)},
		api.NodeDo:      {head: "do", text: none, parts: from(1)},
		api.NodePrim:    {text: prim, parts: from(0)},
		api.NodePerform: {head: "perform", text: name, parts: exactly(1)},
		api.NodeHandle:  {head: "handle", text: none, parts: from(1)},
		api.NodeResume:  {head: "resume", text: none, parts: exactly(2)},
		api.NodeDrop:    {head: "drop", text: none, parts: exactly(2)},
		api.NodeWind:    {head: "wind", text: none, parts: exactly(3)},
		api.NodeReturn:  {head: "return", text: none, names: exactly(1), parts: exactly(1)},
		api.NodeOn:      {head: "on", text: name, names: exactly(2), parts: exactly(1)},
		api.NodeFinally: {head: "finally", text: none, parts: exactly(1)},
	}
}

// name tells whether a text is a name, or an operation.
func name(s string) bool { return lex.Word(s) && s != "true" && s != "false" && s != "unit" }
