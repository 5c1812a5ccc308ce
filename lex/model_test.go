package lex_test

import (
	"fmt"
	"math/big"
	"slices"
	"strings"
	"testing"

	"sacristan/api"
	"sacristan/lex"
)

// machine reads a source a byte at a time, as plainly as can be: what it is in, where that began, what is in it so far.
type machine struct {
	in     string
	begin  int
	so     []byte
	tokens []api.Token
	at     int
	e      api.Errno
}

func (m *machine) stop(at int, e api.Errno) { m.tokens, m.at, m.e = nil, at, e }

// endRun ends a number or a word, if there is one.
func (m *machine) endRun() {
	if m.in != "run" {
		return
	}
	m.in = ""
	s := string(m.so)
	if strings.Trim(strings.TrimPrefix(s, "-"), "0123456789") != "" || s == "-" {
		m.tokens = append(m.tokens, word(m.begin, s))
		return
	}
	n, _ := new(big.Int).SetString(s, 10)
	if !n.IsInt64() {
		m.stop(m.begin, api.ErrLex)
		return
	}
	m.tokens = append(m.tokens, num(m.begin, n.Int64()))
}

// outside takes a byte that is in no text and no note.
func (m *machine) outside(at int, c byte) {
	if !strings.Contains(" \t\r\n;()\"", string(rune(c))) {
		if c <= 32 || c >= 127 {
			m.stop(at, api.ErrLex)
		} else if m.in == "run" {
			m.so = append(m.so, c)
		} else {
			m.in, m.begin, m.so = "run", at, []byte{c}
		}
		return
	}
	if m.endRun(); m.e != api.OK {
		return
	}
	switch c {
	case ';':
		m.in = "note"
	case '"':
		m.in, m.begin, m.so = "text", at, nil
	case '(':
		m.tokens = append(m.tokens, open(at))
	case ')':
		m.tokens = append(m.tokens, shut(at))
	}
}

// escaped takes a byte behind a backslash.
func (m *machine) escaped(at int, c byte) {
	digit := strings.IndexByte("0123456789abcdef0123456789ABCDEF", c)
	switch {
	case m.in == "back" && c == 'x':
		m.in = "high"
		return
	case m.in == "back" && (c == '\\' || c == '"'):
		m.so = append(m.so, c)
	case m.in == "back" && c == 'n':
		m.so = append(m.so, 10)
	case m.in == "high" && digit >= 0:
		m.in, m.so = "low", append(m.so, byte(digit%16*16))
		return
	case m.in == "low" && digit >= 0:
		m.so[len(m.so)-1] += byte(digit % 16)
	default:
		m.stop(at, api.ErrLex)
	}
	m.in = "text"
}

func (m *machine) take(at int, c byte) {
	switch m.in {
	case "note":
		if c == '\n' {
			m.in = ""
		}
	case "text":
		switch c {
		case '"':
			m.in, m.tokens = "", append(m.tokens, text(m.begin, string(m.so)))
		case '\\':
			m.in = "back"
		default:
			m.so = append(m.so, c)
		}
	case "back", "high", "low":
		m.escaped(at, c)
	default:
		m.outside(at, c)
	}
}

// modelled is what Tokens must answer.
func modelled(src string) ([]api.Token, int, api.Errno) {
	if len(src) > 65536 {
		return nil, 65536, api.ErrLong
	}
	m := &machine{}
	for at, c := range []byte(src) {
		if m.take(at, c); m.e != api.OK {
			return nil, m.at, m.e
		}
	}
	switch m.in {
	case "text", "back", "high", "low":
		return nil, len(src), api.ErrShort
	}
	m.endRun()
	return m.tokens, m.at, m.e
}

// asModelled holds both functions' answers against the model's.
func asModelled(t *testing.T, src string) {
	t.Helper()
	got, at, e := lex.Tokens(src)
	want, place, f := modelled(src)
	if !slices.Equal(got, want) || at != place || e != f {
		t.Fatalf("Tokens(%.200q) = %s, %d, %d, want %s, %d, %d", src, told(got), at, e, told(want), place, f)
	}
	if is := f == api.OK && slices.Equal(want, []api.Token{word(0, src)}); lex.Word(src) != is {
		t.Fatalf("Word(%.200q) = %v, want %v", src, !is, is)
	}
}

// everySource goes through all sources of so many bytes out of some.
func everySource(t *testing.T, bytes string, length int) {
	t.Helper()
	src := make([]byte, length)
	var from func(i int)
	from = func(i int) {
		if i == length {
			asModelled(t, string(src))
			return
		}
		for _, c := range []byte(bytes) {
			src[i] = c
			from(i + 1)
		}
	}
	from(0)
}

func TestEveryShortSource(t *testing.T) { // P4.1
	for length := range 6 {
		everySource(t, "(\";\\ \nx-4a\xff", length)
	}
	for length := range 8 {
		everySource(t, "\"\\xnF", length)
	}
}

func TestEveryTwoBytes(t *testing.T) { // P4.1
	for a := range 256 {
		for b := range 256 {
			for _, ahead := range []string{"", "7", `"`, `"\`, `"\x`, ";", `"a" `} {
				asModelled(t, ahead+string([]byte{byte(a), byte(b)}))
			}
		}
	}
}

// grown is a source out of whatever bytes, and its tokens: each token is told by some bytes, and so is what stands behind it.
func grown(row []byte) (string, []api.Token) {
	var src strings.Builder
	var l []api.Token
	for ; len(row) >= 3; row = row[3:] {
		at := src.Len()
		switch row[0] % 5 {
		case 0:
			src.WriteByte('(')
			l = append(l, open(at))
		case 1:
			src.WriteByte(')')
			l = append(l, shut(at))
		case 2:
			n := int64(int8(row[1])) << (row[2] % 57)
			fmt.Fprintf(&src, "%d", n)
			l = append(l, num(at, n))
		case 3:
			s := fmt.Sprintf("%c%d", "a+-*~"[row[1]%5], row[2])
			if s[0] == '-' {
				s += "-"
			}
			src.WriteString(s)
			l = append(l, word(at, s))
		case 4:
			fmt.Fprintf(&src, `"\x%02x\"%s"`, row[1], strings.NewReplacer(`\`, `\\`, `"`, `\"`, "\n", `\n`).Replace(string(row[2:3])))
			l = append(l, text(at, string([]byte{row[1], '"', row[2]})))
		}
		src.WriteString([]string{" ", "\n", "\t", "\r", ";\n", "; (\" \xff\n ", " ;;\\\n", "\r\n"}[row[0]/5%8])
	}
	return src.String(), l
}

func TestManyGrownSources(t *testing.T) { // P4.1
	seed := uint64(1)
	for range 2000 {
		row := make([]byte, 90)
		for i := range row {
			seed = seed*6364136223846793005 + 1442695040888963407
			row[i] = byte(seed >> 56)
		}
		src, want := grown(row)
		read(t, src, want...)
		for range 20 { // and with one byte otherwise
			seed = seed*6364136223846793005 + 1442695040888963407
			wrong := []byte(src)
			wrong[seed>>40%uint64(len(wrong))] = byte(seed >> 32)
			asModelled(t, string(wrong))
		}
	}
}

func FuzzTokens(f *testing.F) { // P4.1
	for _, src := range []string{"", "(a -5)", `"\x4`, "a \"\\q\"", "9223372036854775808\x7f", "-9223372036854775808;\xff\n)", `"a\"\n\x41" ; note )`} {
		f.Add(src)
	}
	f.Fuzz(asModelled)
}
