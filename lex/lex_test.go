package lex_test

import (
	"fmt"
	"math"
	"slices"
	"strings"
	"testing"

	"sacristan/api"
	"sacristan/lex"
	"sacristan/show"
)

func open(at int) api.Token           { return api.Token{Kind: api.TokOpen, At: at} }
func shut(at int) api.Token           { return api.Token{Kind: api.TokClose, At: at} }
func word(at int, s string) api.Token { return api.Token{Kind: api.TokWord, S: s, At: at} }
func num(at int, n int64) api.Token   { return api.Token{Kind: api.TokNumber, N: n, At: at} }
func text(at int, s string) api.Token { return api.Token{Kind: api.TokText, S: s, At: at} }

// told keeps a failure's line short and readable, whatever bytes the tokens have.
func told(l []api.Token) string {
	var b strings.Builder
	for _, k := range l[:min(len(l), 12)] {
		fmt.Fprintf(&b, "{%d %.20q %d at %d}", k.Kind, k.S, k.N, k.At)
	}
	return fmt.Sprint(len(l), " tokens ", b.String())
}

// read holds a source's tokens against what they must be.
func read(t *testing.T, src string, want ...api.Token) {
	t.Helper()
	for range 2 { // P0.5: to read leaves nothing behind
		got, at, e := lex.Tokens(src)
		if e != api.OK || at != 0 || !slices.Equal(got, want) {
			t.Fatalf("Tokens(%.60q) = %s, %d, %d, want %s, 0, 0", src, told(got), at, e, told(want))
		}
	}
}

// stopped holds where reading can't go on, and why, against what they must be: beside an error there are no tokens.
func stopped(t *testing.T, src string, at int, e api.Errno) {
	t.Helper()
	for range 2 {
		got, place, f := lex.Tokens(src)
		if len(got) > 0 || place != at || f != e {
			t.Fatalf("Tokens(%.60q) = %s, %d, %d, want none, %d, %d", src, told(got), place, f, at, e)
		}
	}
}

func TestExample(t *testing.T) { // P4.1, the chapter's example
	read(t, "(a -5)", open(0), word(1, "a"), num(3, -5), shut(5))
}

func TestNothing(t *testing.T) { // P4.1
	for _, src := range []string{"", " ", "\t\n\r ", ";", ";;", "; a", ";\n", " ; a (\"\\\x00\xff \n\r;", ";\n;\n ;"} {
		read(t, src)
	}
}

func TestOrdinarySources(t *testing.T) { // P4.1
	read(t, "(let x 5 (+ x 1))", open(0), word(1, "let"), word(5, "x"), num(7, 5), open(9), word(10, "+"), word(12, "x"), num(14, 1), shut(15), shut(16))
	read(t, "(out \"hi\\n\")", open(0), word(1, "out"), text(5, "hi\n"), shut(11))
	read(t, ")(", shut(0), open(1)) // whether brackets fit isn't asked here
	read(t, "(()\n())", open(0), open(1), shut(2), open(4), shut(5), shut(6))
	read(t, "\r\n a\tb\n", word(3, "a"), word(5, "b"))
}

func TestNotes(t *testing.T) { // P4.1
	read(t, "a;b\nc", word(0, "a"), word(4, "c"))
	read(t, "a;b\rc", word(0, "a")) // a carriage return ends no note
	read(t, "1;2\n;3\n4", num(0, 1), num(7, 4))
	read(t, ";\"\n\"a;b\"", text(3, "a;b")) // in a text a semicolon is a byte
	read(t, "\"a\";\"\n\"b\"", text(0, "a"), text(6, "b"))
	read(t, "(;)\n)", open(0), shut(4))
	read(t, "a;;\n;\\\nb", word(0, "a"), word(7, "b"))
}

func TestTokensWithoutBlanks(t *testing.T) { // P4.1
	read(t, `a"b"c`, word(0, "a"), text(1, "b"), word(4, "c"))
	read(t, `"a""b"`, text(0, "a"), text(3, "b"))
	read(t, `1"2"3`, num(0, 1), text(1, "2"), num(4, 3))
	read(t, `("")`, open(0), text(1, ""), shut(3))
	read(t, `-(-)-1`, word(0, "-"), open(1), word(2, "-"), shut(3), num(4, -1))
}

// numbers are texts of numbers, each with its number.
func numbers() map[string]int64 {
	return map[string]int64{
		"0": 0, "-0": 0, "00": 0, "-00": 0, "7": 7, "-7": -7, "007": 7, "-007": -7, "10": 10,
		"9223372036854775806": math.MaxInt64 - 1, "9223372036854775807": math.MaxInt64,
		"-9223372036854775807": -math.MaxInt64, "-9223372036854775808": math.MinInt64,
		"0009223372036854775807": math.MaxInt64, "-000000009223372036854775808": math.MinInt64,
		strings.Repeat("0", 30000) + "12": 12, "-" + strings.Repeat("0", 30000) + "12": -12,
	}
}

func TestNumbers(t *testing.T) { // P4.1
	for s, n := range numbers() {
		read(t, s, num(0, n))
		read(t, "("+s+" "+s+";\n", open(0), num(1, n), num(2+len(s), n))
	}
	for shift := range 63 {
		for _, n := range []int64{1<<shift - 1, 1 << shift, -1 << shift, -1<<shift - 1} {
			read(t, fmt.Sprint(n), num(0, n))
		}
	}
}

// greats are texts of numbers that are too great.
func greats() []string {
	return []string{"9223372036854775808", "-9223372036854775809", "18446744073709551615", "18446744073709551616", "18446744073709551621", "-18446744073709551616", "99999999999999999999", "-99999999999999999999", "0009223372036854775808", strings.Repeat("1", 60000)}
}

func TestNumbersTooGreat(t *testing.T) { // P4.1
	for _, s := range greats() {
		stopped(t, s, 0, api.ErrLex)
		for _, ahead := range []string{"a ", "(", "1 ", `"x"`, ";\n"} {
			for _, behind := range []string{"", " \x00", ")\x00", ";", `"`, "(", "\n", `"\q"`} { // met behind its last byte, ahead of what is further on
				stopped(t, ahead+s+behind, len(ahead), api.ErrLex)
			}
		}
		// A byte that may not stand, and one that makes it a word, are met first.
		stopped(t, s+"\x00", len(s), api.ErrLex)
		stopped(t, " "+s+"x\x7f ", len(s)+2, api.ErrLex)
		read(t, s+"x", word(0, s+"x"))
		read(t, s+"-", word(0, s+"-"))
	}
}

func TestNearlyNumbers(t *testing.T) { // P4.1
	for _, s := range []string{"-", "--", "--1", "+1", "+", "1-", "1-2", "-1-", "1.5", "0x1", "1e3", "1_0", "-x", "a1", "1a", "\\1", "'1", "-+1", "1,"} {
		read(t, s, word(0, s))
		worded(t, s, true)
	}
}

func TestEscapes(t *testing.T) { // P4.1
	for src, want := range map[string]string{
		`""`: "", `"a b"`: "a b", `"\""`: `"`, `"\\"`: `\`, `"\n"`: "\n", `"\\n"`: `\n`, `"\\\""`: `\"`, `"\\\\"`: `\\`,
		`"\x00"`: "\x00", `"\xff\xFF\xfF\xFf"`: "\xff\xff\xff\xff", `"\x41B"`: "AB", `"\x412"`: "A2", `"\x0a"`: "\n", `"\x22"`: `"`, `"\x5cn"`: `\n`,
		`"(a) ; b"`: "(a) ; b", "\"\n\r\t\"": "\n\r\t", "\"é\xff\x00\x7f\"": "é\xff\x00\x7f",
	} {
		read(t, src, text(0, want))
		read(t, "("+src+")", open(0), text(1, want), shut(1+len(src)))
	}
}

func TestEveryByteOfATextInHexadecimal(t *testing.T) { // P4.1
	for c := range 256 {
		for _, form := range []string{`"\x%02x"`, `"\x%02X"`} {
			read(t, fmt.Sprintf(form, c), text(0, string([]byte{byte(c)})))
		}
	}
}

func TestEveryByteInAText(t *testing.T) { // P4.1
	for c := range 256 {
		s := string([]byte{byte(c)})
		switch s {
		case `"`:
			stopped(t, `"a`+s+`b"`, 5, api.ErrShort)
		case `\`:
			stopped(t, `"a`+s+`b"`, 3, api.ErrLex)
		default:
			read(t, `"a`+s+`b"`, text(0, "a"+s+"b"))
		}
	}
}

func TestEveryByteBehindABackslash(t *testing.T) { // P4.1
	stands := map[string]string{`"`: `"`, `\`: `\`, "n": "\n"}
	for c := range 256 {
		s := string([]byte{byte(c)})
		src := `a "-\` + s + `41" b`
		if s == "x" {
			read(t, src, word(0, "a"), text(2, "-A"), word(10, "b"))
		} else if stands[s] == "" {
			stopped(t, src, 5, api.ErrLex)
		} else if s == `"` { // the text goes on behind it
			read(t, src, word(0, "a"), text(2, `-"41`), word(10, "b"))
		} else {
			read(t, src, word(0, "a"), text(2, "-"+stands[s]+"41"), word(10, "b"))
		}
	}
}

func TestEveryByteAsADigit(t *testing.T) { // P4.1
	for c := range 256 {
		s := string([]byte{byte(c)})
		if strings.Contains("0123456789abcdefABCDEF", s) {
			read(t, `"\x`+s+`0"`, text(0, string([]byte{byte(strings.Index("0123456789abcdef", strings.ToLower(s)) << 4)})))
			read(t, `"\x0`+s+`"`, text(0, string([]byte{byte(strings.Index("0123456789abcdef", strings.ToLower(s)))})))
			continue
		}
		stopped(t, `"\x`+s+`0"`, 3, api.ErrLex) // a quote among them: the first byte that doesn't fit
		stopped(t, `"\x0`+s+`"`, 4, api.ErrLex)
		stopped(t, `"\x`+s, 3, api.ErrLex)
		stopped(t, `"\x0`+s, 4, api.ErrLex)
	}
}

func TestTextsWithoutEnd(t *testing.T) { // P4.1
	for _, src := range []string{`"`, `"a`, `"\`, `"\\`, `"\"`, `"\x`, `"\x4`, `"\x41`, `"\n`, `"\\\"`, "\"\n", `"a;`, `"()`, `"""`, `"a" "`, `"\\""`, "\"\x00\xff"} {
		stopped(t, src, len(src), api.ErrShort)
		stopped(t, "(a -5 "+src, 6+len(src), api.ErrShort)
	}
}

func TestEveryByteOutside(t *testing.T) { // P4.1
	for c := range 256 {
		s := string([]byte{byte(c)})
		alone, within := s, "a"+s+"b"
		switch {
		case strings.Contains(" \t\n\r", s):
			read(t, alone)
			read(t, within, word(0, "a"), word(2, "b"))
		case s == ";":
			read(t, alone)
			read(t, within, word(0, "a"))
		case s == "(":
			read(t, alone, open(0))
			read(t, within, word(0, "a"), open(1), word(2, "b"))
		case s == ")":
			read(t, alone, shut(0))
			read(t, within, word(0, "a"), shut(1), word(2, "b"))
		case s == `"`:
			stopped(t, alone, 1, api.ErrShort)
			stopped(t, within, 3, api.ErrShort)
		case c < 33 || c > 126:
			stopped(t, alone, 0, api.ErrLex)
			stopped(t, within, 1, api.ErrLex)
			stopped(t, "( "+alone+" \"", 2, api.ErrLex) // the first one that is met
			stopped(t, "\""+alone, 2, api.ErrShort)
			read(t, "a;"+s+"\nb", word(0, "a"), word(4, "b"))
		case c >= '0' && c <= '9':
			read(t, alone, num(0, int64(c-'0')))
			read(t, within, word(0, within))
		default:
			read(t, alone, word(0, alone))
			read(t, within, word(0, within))
		}
		worded(t, alone, c >= 33 && c <= 126 && !strings.Contains(`;()"0123456789`, s))
		worded(t, within, c >= 33 && c <= 126 && !strings.Contains(`;()"`, s))
	}
}

func TestFirstErrorIsTold(t *testing.T) { // P4.1
	stopped(t, "\x01\x02", 0, api.ErrLex)
	stopped(t, "a \x01 \"", 2, api.ErrLex)
	stopped(t, `"\q" "`, 2, api.ErrLex)
	stopped(t, `"\q`, 2, api.ErrLex)
	stopped(t, "\"\\q\x00\xff", 2, api.ErrLex)
	stopped(t, "é", 0, api.ErrLex)
	stopped(t, "aé", 1, api.ErrLex)
	stopped(t, "\"a \x01", 4, api.ErrShort)
	stopped(t, "9223372036854775808 \x01", 0, api.ErrLex)
	stopped(t, "(\x01 9223372036854775808", 1, api.ErrLex)
}

func TestLongSources(t *testing.T) { // P4.1
	full := strings.Repeat("x", api.MaxSource)
	read(t, full, word(0, full))
	read(t, strings.Repeat(" ", api.MaxSource-1)+"7", num(api.MaxSource-1, 7))
	read(t, strings.Repeat("0", api.MaxSource-1)+"7", num(0, 7))
	read(t, `"`+full[2:]+`"`, text(0, full[2:]))
	read(t, ";"+full[1:])
	var brackets []api.Token
	for at := range api.MaxSource {
		brackets = append(brackets, open(at))
	}
	read(t, strings.Repeat("(", api.MaxSource), brackets...)
	stopped(t, `"`+full[1:], api.MaxSource, api.ErrShort)
	stopped(t, full[1:]+"\x00", api.MaxSource-1, api.ErrLex)
	stopped(t, strings.Repeat("9", api.MaxSource), 0, api.ErrLex)
	for _, src := range []string{full + "x", full + " ", " " + full, full + full, "\x00" + full, `"` + full, `"\q` + full, strings.Repeat(" ", api.MaxSource+1), strings.Repeat("9", api.MaxSource+1), strings.Repeat("\xff", 10*api.MaxSource)} {
		stopped(t, src, api.MaxSource, api.ErrLong)
	}
}

// worded holds what Word answers against what it must, and against the tokens of the text.
func worded(t *testing.T, s string, want bool) {
	t.Helper()
	if got := lex.Word(s); got != want {
		t.Fatalf("Word(%.60q) = %v, want %v", s, got, want)
	}
	l, _, e := lex.Tokens(s)
	if alone := e == api.OK && slices.Equal(l, []api.Token{word(0, s)}); alone != want {
		t.Fatalf("Tokens(%.60q) is that word alone: %v, want %v", s, alone, want)
	}
}

func TestWord(t *testing.T) { // P4.1
	full := strings.Repeat("x", api.MaxSource)
	for _, s := range []string{"a", "abc", "true", "unit", "+", "-", "--", "<=", "a-b", "x1", "1x", "-x", "[]{}", `a\n`, "'", "!~", "#fun", full, full[1:] + "1"} {
		worded(t, s, true)
	}
	for _, s := range []string{"", " ", "a b", " a", "a ", "a\n", "\ta", "a;", ";a", "(", ")", "(a)", "a(", `"`, `"a"`, `a"`, "0", "-1", "007", "-0", "é", "a\x00", "\x7f", "a\xff", "a b c", full + "x", strings.Repeat("1", api.MaxSource), "-" + full[1:] + "xx"} {
		worded(t, s, false)
	}
	for s := range numbers() {
		worded(t, s, false)
	}
	for _, s := range greats() { // no word either: it is a number, and too great
		worded(t, s, false)
	}
}

func TestShownTextsAreReadBack(t *testing.T) { // P4.1, as layer 3 shows texts
	var all []byte
	for c := range 256 {
		all = append(all, byte(c))
	}
	for _, s := range []string{"", "a", `"\`, "\n", "é", string(all), string(all) + string(all), strings.Repeat("\x00", api.MaxSource/4-1)} {
		read(t, show.Quote(s), text(0, s))
	}
}

func TestAnswersAreApart(t *testing.T) { // P0.3
	src := `(a "b" 3)`
	first, _, _ := lex.Tokens(src)
	second, _, _ := lex.Tokens(src)
	kept := slices.Clone(second)
	for i := range first {
		first[i] = api.Token{Kind: 9, S: "?", N: -1, At: -1}
	}
	if first = append(first, open(0)); !slices.Equal(second, kept) {
		t.Errorf("an answer is %v behind a write into another one, want %v", second, kept)
	}
	read(t, src, kept...)
}
