package pan_test

import (
	"math"
	"strings"
	"testing"

	"cardnet/api"
	"cardnet/pan"
)

func TestLuhn(t *testing.T) {
	for s, want := range map[string]bool{"79927398713": true, "79927398710": false, "": false, "0": true, "18": true, "81": false, "4111111111111111": true, "411111111111111a": false, "0\xff": false, "&": false, ":": false, "\u0660": false, strings.Repeat("0", 100): true} {
		if pan.Luhn(s) != want {
			t.Error(s)
		}
	}
	// Every replaced digit and every exchange of neighbours but 0 and 9 is found.
	s := "4000000000900077"
	d, _ := pan.CheckDigit(s[:15])
	s = s[:15] + string(d)
	for i := range s {
		for c := byte('0'); c <= '9'; c++ {
			if x := s[:i] + string(c) + s[i+1:]; pan.Luhn(x) != (x == s) {
				t.Error(x)
			}
		}
		if i > 0 && s[i] != s[i-1] && int(s[i])+int(s[i-1]) != '0'+'9' {
			if x := s[:i-1] + string(s[i]) + string(s[i-1]) + s[i+1:]; pan.Luhn(x) {
				t.Error(x)
			}
		}
	}
}

func TestCheckDigit(t *testing.T) {
	for s, want := range map[string]byte{"7992739871": '3', "0": '0', "411111111111111": '1', "000000000000000000": '0', "5": '9'} {
		if d, e := pan.CheckDigit(s); d != want || e != api.OK || !pan.Luhn(s+string(d)) {
			t.Error(s, d, e)
		}
	}
	for s, want := range map[string]api.Errno{"": api.ErrShort, strings.Repeat("1", 19): api.ErrLong, "12a": api.ErrFormat, strings.Repeat("a", 19): api.ErrLong} {
		if d, e := pan.CheckDigit(s); d != 0 || e != want {
			t.Error(s, d, e)
		}
	}
}

func TestCheck(t *testing.T) {
	for s, want := range map[string]api.Errno{
		"4111111111111111": api.OK, "4111111111111112": api.ErrChecksum, "79927398713": api.ErrShort, "": api.ErrShort,
		"000000000000": api.OK, strings.Repeat("0", 19): api.OK, strings.Repeat("0", 20): api.ErrLong, "41111111111111 1": api.ErrFormat,
	} {
		if e := pan.Check(s); e != want {
			t.Error(s, e)
		}
	}
}

func TestMakeIndex(t *testing.T) {
	for i, c := range []struct {
		prefix    string
		n, length int
		want      string
	}{
		{"400000", 7, 16, "4000000000000077"}, {"400000", 0, 16, "4000000000000002"}, {"1234567890", 9, 12, "123456789098"}, {"9", 99999999999999999, 19, ""},
	} {
		s, e := pan.Make(c.prefix, c.n, c.length)
		if e != api.OK || c.want != "" && s != c.want || len(s) != c.length {
			t.Error(i, s, e)
		}
		if n, ok := pan.Index(c.prefix, s); n != c.n || !ok {
			t.Error(i, n, ok)
		}
	}
	for i, c := range []struct {
		prefix    string
		n, length int
	}{
		{"400000", 7, 11}, {"400000", 7, 20}, {"", 7, 16}, {"12345678901", 7, 16}, {"4a", 7, 16}, {"400000", -1, 16}, {"400000", 1000000000, 16},
		{"1234567890", 10, 12}, {"4", math.MaxInt, 19}, {"4", math.MinInt, 19},
	} {
		if s, e := pan.Make(c.prefix, c.n, c.length); s != "" || e != api.ErrRange {
			t.Error(i, s, e)
		}
	}
	for _, c := range [][2]string{{"400000", "4000000000000078"}, {"400001", "4000000000000077"}, {"", "4000000000000077"}, {"40000000000", "4000000000000077"}, {"400000", "40000077"}, {"400000", ""}} {
		if n, ok := pan.Index(c[0], c[1]); n != 0 || ok {
			t.Error(c, n, ok)
		}
	}
}

func TestMaskWithinGroup(t *testing.T) {
	for s, want := range map[string]string{"4000000000000077": "400000******0077", "000000000000": "000000**0000", "4000000000000078": "****************", "": "", "ab": "**"} {
		if pan.Mask(s) != want {
			t.Error(s, pan.Mask(s))
		}
	}
	for i, c := range []struct {
		s, low, high string
		want         bool
	}{
		{"4000000000000077", "399999", "400000", true}, {"4000000000000077", "400000", "400000", true}, {"41", "40", "40", false}, {"41", "42", "43", false},
		{"41", "4", "40", false}, {"41", "", "", false}, {"4", "40", "41", false}, {"", "", "", false}, {"41", "4a", "42", false}, {"41", "40", "4b", false},
		{"4x", "4", "4", false}, {"45", "4/", "46", false}, {"45", "44", "4:", false}, {"41", "41", "41", true}, {"45", "46", "44", false},
	} {
		if pan.Within(c.s, c.low, c.high) != c.want {
			t.Error(i)
		}
	}
	for s, want := range map[string]string{"": "", "abc": "abc", "abcd": "abcd", "abcde": "abcd e", "4000000000000077": "4000 0000 0000 0077"} {
		if pan.Group(s) != want {
			t.Error(s, pan.Group(s))
		}
	}
}

func TestStrip(t *testing.T) {
	for _, s := range []string{"4000-0000 0000 0077", "4000000000000077", "4-0-0-0-0-0-0-0-0-0-0-0-0-0-7-7", pan.Group("4000000000000077")} {
		if x, e := pan.Strip(s); x != "4000000000000077" || e != api.OK {
			t.Error(s, x, e)
		}
	}
	for n := range 100 {
		s, _ := pan.Make("49", n*1234567, 19)
		if x, e := pan.Strip(pan.Group(s)); x != s || e != api.OK {
			t.Error(s, x, e)
		}
	}
	for s, want := range map[string]api.Errno{
		"": api.ErrShort, "4000--0000": api.ErrFormat, "-4000": api.ErrFormat, "4000 ": api.ErrFormat, "4000_0000": api.ErrFormat, "4000 -0000": api.ErrFormat,
		"4000 0000": api.ErrShort, "4000 0000 0000 0078": api.ErrChecksum, "4000 0000 0000 0000 0000": api.ErrLong, " ": api.ErrFormat, "4\xff0": api.ErrFormat,
	} {
		if x, e := pan.Strip(s); x != "" || e != want {
			t.Error(s, x, e)
		}
	}
}
