package element_test

import (
	"slices"
	"strings"
	"testing"

	"cardnet/api"
	"cardnet/element"
)

func TestDictionary(t *testing.T) {
	all := []int{2, 3, 4, 7, 11, 14, 18, 32, 37, 38, 39, 41, 42, 48, 49, 52, 54, 55, 56, 59, 70, 95, 100}
	if !slices.Equal(element.All(), all) {
		t.Error(element.All())
	}
	specs := "card 1 19 2,process 1 6 0,amount 1 12 0,sent 1 13 0,trace 1 6 0,expiry 1 5 0,category 1 4 0,acquirer 2 16 2,reference 1 12 0,approval 1 6 0,response 1 2 0,terminal 2 8 0,merchant 2 16 2,extra 2 255 3,currency 2 3 0,cryptogram 3 16 0,partial 1 12 0,counter 1 6 0,original 1 12 0,nonce 2 8 0,network 1 3 0,raise 1 12 0,receiver 2 16 2"
	for i, want := range strings.Split(specs, ",") {
		x, ok := element.Find(all[i])
		name, _, _ := strings.Cut(want, " ")
		n, found := element.ByName(name)
		got := x.Name + " " + strings.Join([]string{itoa(x.Kind), itoa(x.Length), itoa(x.Var)}, " ")
		if !ok || !found || n != all[i] || x.Number != n || got != want {
			t.Error(want, got, n)
		}
	}
	for _, n := range []int{0, 1, 5, 128, -2} {
		if x, ok := element.Find(n); ok || x != (element.Spec{}) {
			t.Error(n, x)
		}
	}
	for _, s := range []string{"", "Card", "none"} {
		if n, ok := element.ByName(s); ok || n != 0 {
			t.Error(s, n)
		}
	}
	l := element.All()
	l[0] = 99
	if element.All()[0] != 2 {
		t.Error("shared memory")
	}
}

func itoa(n int) string {
	s := ""
	for ; n > 9; n /= 10 {
		s = string(rune('0'+n%10)) + s
	}
	return string(rune('0'+n)) + s
}

func TestCheck(t *testing.T) {
	for i, c := range []struct {
		n    int
		v    string
		want api.Errno
	}{
		{2, "4111111111111111", 0}, {2, "4", 0}, {2, "", api.ErrShort}, {2, strings.Repeat("1", 20), api.ErrLong}, {2, "1a", api.ErrFormat},
		{39, "5", api.ErrShort}, {39, "005", api.ErrLong}, {39, "0a", api.ErrFormat}, {39, "xxx", api.ErrLong}, {39, "05", 0},
		{41, "T1", 0}, {41, "", api.ErrShort}, {41, "T1 ", api.ErrFormat}, {41, " T1", api.ErrFormat}, {41, "T 1", 0}, {41, "123456789", api.ErrLong},
		{42, "\x7f", api.ErrFormat}, {42, "~", 0}, {48, strings.Repeat("x", 255), 0}, {48, strings.Repeat("x", 256), api.ErrLong}, {49, "eur", 0}, {49, "EU", api.ErrShort},
		{52, "0123456789abcdef", 0}, {52, "0123456789ABCDEF", api.ErrFormat}, {52, "0123456789abcdeg", api.ErrFormat}, {59, "1234567", api.ErrShort}, {5, "1", api.ErrNone},
		{59, "1234567 ", api.ErrFormat}, {42, "\x1f", api.ErrFormat},
	} {
		if e := element.Check(c.n, c.v); e != c.want {
			t.Error(i, e)
		}
		if s, e := element.Encode(c.n, c.v); e != c.want || e != api.OK && s != "" {
			t.Error(i, s, e)
		}
	}
}

func TestText(t *testing.T) {
	for i, c := range []struct {
		n          int
		v, encoded string
	}{
		{2, "4111111111111111", "164111111111111111"}, {41, "T1", "T1      "}, {41, "12345678", "12345678"}, {39, "05", "05"}, {42, "SHOP1", "05SHOP1"}, {48, "x", "001x"}, {42, "1234567890123456", "161234567890123456"}, {48, strings.Repeat("y", 255), "255" + strings.Repeat("y", 255)},
		{52, "0123456789abcdef", "0123456789abcdef"},
	} {
		if s, e := element.Encode(c.n, c.v); s != c.encoded || e != api.OK {
			t.Error(i, s, e)
		}
		if v, rest, e := element.Decode(c.n, c.encoded+" rest"); v != c.v || rest != " rest" || e != api.OK {
			t.Error(i, v, rest, e)
		}
	}
	for i, c := range []struct {
		n    int
		s    string
		want api.Errno
	}{
		{5, "1", api.ErrNone}, {42, "1", api.ErrShort}, {42, "", api.ErrShort}, {42, "0x", api.ErrFormat}, {42, "17", api.ErrLong}, {42, "05SHOP", api.ErrShort}, {42, "00", api.ErrShort},
		{42, "02a ", api.ErrFormat}, {48, "256" + strings.Repeat("x", 256), api.ErrLong}, {48, "25", api.ErrShort}, {41, "T1     ", api.ErrShort}, {41, "        ", api.ErrShort}, {41, " T      ", api.ErrFormat},
		{39, "0", api.ErrShort}, {39, "0a", api.ErrFormat}, {52, "0123456789ABCDEF", api.ErrFormat}, {2, "20", api.ErrLong}, {2, "-1", api.ErrFormat},
	} {
		if v, rest, e := element.Decode(c.n, c.s); v != "" || rest != "" || e != c.want {
			t.Error(i, v, rest, e)
		}
	}
}

func TestRequired(t *testing.T) {
	for kind, want := range map[int][]int{
		100: {2, 3, 4, 7, 11, 32, 37, 41, 42, 49}, 110: {37, 39}, 130: {37, 39}, 120: {2, 3, 4, 7, 11, 32, 37, 39, 41, 42, 49},
		400: {2, 4, 11, 32, 37, 49, 56}, 420: {2, 4, 11, 32, 37, 49, 56}, 410: {37, 39, 56}, 430: {37, 39, 56}, 800: {11, 70}, 810: {11, 39}, 0: nil, 200: nil, -100: nil,
	} {
		if !slices.Equal(element.Required(kind), want) {
			t.Error(kind, element.Required(kind))
		}
		for _, n := range want {
			if _, ok := element.Find(n); !ok {
				t.Error(n)
			}
		}
	}
}
