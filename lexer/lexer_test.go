package lexer_test

import (
	"slices"
	"strings"
	"testing"

	"cardnet/api"
	"cardnet/lexer"
)

func nm(s string, at int) api.Lexeme  { return api.Lexeme{Kind: api.LxName, Text: s, At: at} }
func no(n int64, at int) api.Lexeme   { return api.Lexeme{Kind: api.LxNumber, N: n, At: at} }
func mk(s string, at int) api.Lexeme  { return api.Lexeme{Kind: api.LxMark, Text: s, At: at} }
func txt(s string, at int) api.Lexeme { return api.Lexeme{Kind: api.LxText, Text: s, At: at} }
func end(at int) api.Lexeme           { return api.Lexeme{At: at} }

func TestScan(t *testing.T) {
	for s, want := range map[string][]api.Lexeme{
		"":                          {end(0)},
		"rule a when amount <= 100": {nm("rule", 0), nm("a", 5), nm("when", 7), nm("amount", 12), mk("<=", 19), no(100, 22), end(25)},
		" \t\n# x y\nb#":            {nm("b", 9), end(11)},
		"a_1-\"x # y\"":             {nm("a_1", 0), mk("-", 3), txt("x # y", 4), end(11)},
		"<<=!==>":                   {mk("<", 0), mk("<=", 1), mk("!=", 3), mk("=", 5), mk(">", 6), end(7)},
		"(){},;:=<>+-*%.":           {mk("(", 0), mk(")", 1), mk("{", 2), mk("}", 3), mk(",", 4), mk(";", 5), mk(":", 6), mk("=", 7), mk("<", 8), mk(">", 9), mk("+", 10), mk("-", 11), mk("*", 12), mk("%", 13), mk(".", 14), end(15)},
		"0 9007199254740992":        {no(0, 0), no(1<<53, 2), end(18)},
		"\"\"":                      {txt("", 0), end(2)},
		"aaaaaaaaaaaaaaaa":          {nm("aaaaaaaaaaaaaaaa", 0), end(16)},
		"azAZ z Z A":                {nm("azAZ", 0), nm("z", 5), nm("Z", 7), nm("A", 9), end(10)},
		"9 190":                     {no(9, 0), no(190, 2), end(5)},
	} {
		if l, e, at := lexer.Scan(s); !slices.Equal(l, want) || e != api.OK || at != 0 {
			t.Error(s, l, e, at)
		}
	}
	for _, c := range []struct {
		s  string
		e  api.Errno
		at int
	}{
		{"12a", api.ErrFormat, 0}, {"a 01", api.ErrFormat, 2}, {"a 00", api.ErrFormat, 2}, {"1_", api.ErrFormat, 0}, {"a _b", api.ErrFormat, 2},
		{"a !", api.ErrFormat, 2}, {"! =", api.ErrFormat, 0}, {"a\r", api.ErrFormat, 1}, {"a\xff", api.ErrFormat, 1}, {"a \"b", api.ErrFormat, 2},
		{"\"a\nb\"", api.ErrFormat, 0}, {"\"a\x7f\"", api.ErrFormat, 0}, {" \"" + strings.Repeat("a", 101) + "\"", api.ErrLong, 1},
		{"\"" + strings.Repeat("\x01", 101) + "\"", api.ErrFormat, 0}, {" aaaaaaaaaaaaaaaaa", api.ErrLong, 1}, {"9007199254740993", api.ErrRange, 0},
		{"99999999999999999999999", api.ErrRange, 0}, {strings.Repeat(" ", 4001), api.ErrLong, 0}, {"@", api.ErrFormat, 0}, {"a[", api.ErrFormat, 1},
	} {
		if l, e, at := lexer.Scan(c.s); len(l) != 0 || e != c.e || at != c.at {
			t.Error(c.s, l, e, at)
		}
	}
	if l, e, _ := lexer.Scan(strings.Repeat(" ", 4000)); len(l) != 1 || l[0] != end(4000) || e != api.OK {
		t.Error(l, e)
	}
	if l, e, _ := lexer.Scan("\"" + strings.Repeat("a", 100) + "\""); len(l) != 2 || e != api.OK {
		t.Error(l, e)
	}
}

func TestPrint(t *testing.T) {
	for s, want := range map[string]string{"a<=1": "a <= 1", "": "", " \"x y\" # z": "\"x y\"", "f(a,7);": "f ( a , 7 ) ;"} {
		l, _, _ := lexer.Scan(s)
		if lexer.Print(l) != want {
			t.Error(s, lexer.Print(l))
		}
		again, e, _ := lexer.Scan(lexer.Print(l))
		for i := range again {
			again[i].At, l[i].At = 0, 0
		}
		if !slices.Equal(again, l) || e != api.OK {
			t.Error(s, again)
		}
	}
	if s := lexer.Print([]api.Lexeme{{Kind: 9, Text: "x"}, end(3), no(-5, 0), {Kind: -1}, nm("a", 0)}); s != "-5 a" {
		t.Error(s)
	}
}

func TestIsName(t *testing.T) {
	for s, want := range map[string]bool{"a": true, "A_9": true, "": false, "9a": false, "a-b": false, "_a": false, "aaaaaaaaaaaaaaaaa": false} {
		if lexer.IsName(s) != want {
			t.Error(s)
		}
	}
}

func TestScanner(t *testing.T) {
	c, e, at := lexer.NewScanner("a ; b \";\"")
	if e != api.OK || at != 0 {
		t.Fatal(e, at)
	}
	if c.Peek() != nm("a", 0) || c.Peek() != nm("a", 0) || c.Mark("a") || c.Word("b") || !c.Word("a") || c.Word(";") || c.Mark(",") || !c.Mark(";") {
		t.Error(c.Peek())
	}
	if c.Next() != nm("b", 4) || c.Mark(";") || c.Next() != txt(";", 6) || c.Next() != end(9) || c.Next() != end(9) || c.Peek() != end(9) || c.Word("") || c.Mark("") {
		t.Error(c.Peek())
	}
	if c, e, at := lexer.NewScanner("a 01"); c != nil || e != api.ErrFormat || at != 2 {
		t.Error(c, e, at)
	}
	var none *lexer.Scanner
	if none.Peek() != end(0) || none.Next() != end(0) || none.Mark("") || none.Word("") {
		t.Error("nil scanner")
	}
	new(lexer.Scanner).Next()
}
