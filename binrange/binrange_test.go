package binrange_test

import (
	"slices"
	"strings"
	"testing"

	"cardnet/api"
	"cardnet/binrange"
	"cardnet/pan"
)

func rg(low, high string) api.Range {
	return api.Range{Low: low, High: high, Issuer: "one", Product: "gold"}
}

func full(low, high, issuer, product string) api.Range {
	return api.Range{Low: low, High: high, Issuer: issuer, Product: product}
}

func TestCheck(t *testing.T) {
	many := make([]api.Range, 65)
	for i, c := range []struct {
		l    []api.Range
		want api.Errno
	}{
		{nil, 0}, {[]api.Range{rg("4", "4"), rg("40", "41"), rg("0123456789", "9999999999")}, 0}, {many, api.ErrLong}, {many[:64], api.ErrFormat},
		{[]api.Range{rg("40", "41"), rg("41", "42")}, api.ErrExists}, {[]api.Range{rg("41", "40")}, api.ErrRange}, {[]api.Range{rg("40", "4100")}, api.ErrFormat}, {[]api.Range{rg("", "")}, api.ErrFormat},
		{[]api.Range{rg("4a", "4b")}, api.ErrFormat}, {[]api.Range{rg("01234567890", "01234567890")}, api.ErrFormat}, {[]api.Range{{Low: "4", High: "4", Issuer: "a-b", Product: "x"}}, api.ErrName},
		{[]api.Range{{Low: "4", High: "4", Issuer: "a", Product: ""}}, api.ErrName}, {[]api.Range{{Low: "5", High: "4"}}, api.ErrRange},
		{[]api.Range{rg("40", "41"), rg("41", "42"), rg("x", "x")}, api.ErrFormat}, {[]api.Range{rg("40", "40"), rg("41", "41"), rg("40", "40")}, api.ErrExists},
	} {
		if e := binrange.Check(c.l); e != c.want {
			t.Error(i, e)
		}
	}
}

func TestOverlap(t *testing.T) {
	for i, c := range []struct {
		a, b api.Range
		want bool
	}{
		{rg("40", "41"), rg("4150", "4159"), true}, {rg("40", "41"), rg("4200", "4299"), false}, {rg("40", "41"), rg("3999", "3999"), false}, {rg("40", "41"), rg("3999", "4000"), true}, {rg("4", "4"), rg("4", "4"), true},
		{rg("41", "40"), rg("40", "40"), false}, {rg("40", "40"), rg("x", "x"), false}, {rg("", ""), rg("4", "4"), false}, {rg("40", "40"), rg("41", "41"), false}, {rg("4999", "5000"), rg("5", "5"), true},
		{api.Range{Low: "4", High: "5"}, rg("45", "45"), true},
	} {
		if binrange.Overlap(c.a, c.b) != c.want || binrange.Overlap(c.b, c.a) != c.want {
			t.Error(i)
		}
	}
}

func TestFind(t *testing.T) {
	l := []api.Range{full("4", "4", "bankone", "basic"), full("4000", "4099", "banktwo", "gold"), full("400000", "400999", "three", "x")}
	for prefix, want := range map[string]string{"4050": "banktwo", "41": "bankone", "400001": "three", "401": "banktwo", "5": "", "3999": ""} {
		n, _ := pan.Make(prefix, 1, 16)
		if r, ok := binrange.Find(l, n); r.Issuer != want || ok != (want != "") || !ok && r != (api.Range{}) {
			t.Error(prefix, r, ok)
		}
	}
	n, _ := pan.Make("41", 1, 16)
	if r, ok := binrange.Find(l, n[:15]); ok || r != (api.Range{}) {
		t.Error(r)
	}
	if r, ok := binrange.Find(append(l, rg("9", "8")), n); ok || r != (api.Range{}) {
		t.Error(r)
	}
}

func TestSortMerge(t *testing.T) {
	lows := func(l []api.Range) string {
		s := ""
		for _, r := range l {
			s += r.Low + "-" + r.High + r.Product + " "
		}
		return s
	}
	given := []api.Range{rg("4", "4"), rg("40", "41"), rg("40", "4"), rg("39", "39"), rg("", "x"), {Low: "39", High: "39", Product: "b"}, rg("4000", "4"), rg("40", "40")}
	if s := lows(binrange.Sort(given)); s != "39-39gold 39-39b 4000-4gold 40-40gold 40-41gold 40-4gold 4-4gold -xgold " || lows(binrange.Sort(binrange.Sort(given))) != s || given[0].Low != "4" {
		t.Error(s)
	}
	for i, c := range []struct {
		l    []api.Range
		want string
	}{
		{[]api.Range{rg("400100", "400199"), rg("400000", "400099")}, "400000-400199gold "}, {[]api.Range{rg("40", "40"), rg("42", "42"), rg("41", "41"), rg("43", "43")}, "40-43gold "},
		{[]api.Range{rg("40", "40"), full("41", "41", "two", "gold"), full("42", "42", "two", "x")}, "40-40gold 41-41gold 42-42x "}, {[]api.Range{rg("40", "40"), rg("41", "41")}, "40-41gold "},
		{[]api.Range{rg("09", "09"), rg("10", "10"), rg("11", "11")}, "09-11gold "}, {[]api.Range{rg("3", "3"), rg("40", "40")}, "3-3gold 40-40gold "}, {nil, ""}, {[]api.Range{rg("40", "40"), rg("42", "42")}, "40-40gold 42-42gold "},
		{[]api.Range{rg("9999999998", "9999999999"), rg("0", "0")}, "0-0gold 9999999998-9999999999gold "},
	} {
		l, e := binrange.Merge(c.l)
		if lows(l) != c.want || e != api.OK {
			t.Error(i, l, e)
		}
		if again, e := binrange.Merge(l); !slices.Equal(again, l) || e != api.OK {
			t.Error(i, again, e)
		}
	}
	if l, e := binrange.Merge([]api.Range{rg("40", "40"), rg("40", "40")}); len(l) != 0 || e != api.ErrExists {
		t.Error(l, e)
	}
}

func TestText(t *testing.T) {
	l := []api.Range{full("400000", "400099", "bankone", "gold"), full("007", "008", "A_1", "b")}
	const text = "400000-400099 bankone gold;\n007-008 A_1 b;\n"
	if binrange.Format(l) != text || binrange.Format([]api.Range{rg("5", "4")}) != "" || binrange.Format(nil) != "" {
		t.Error(binrange.Format(l))
	}
	for _, s := range []string{text, "#x;\n 400000\t-\n400099#\nbankone gold;007 -008A_1 b;# end"} {
		if x, e, at := binrange.Parse(s); !slices.Equal(x, l) || e != api.OK || at != 0 {
			t.Error(s, x, e, at)
		}
	}
	for _, s := range []string{"", " \n\t#"} {
		if x, e, at := binrange.Parse(s); len(x) != 0 || e != api.OK || at != 0 {
			t.Error(s, x, e, at)
		}
	}
	for _, c := range []struct {
		s  string
		e  api.Errno
		at int
	}{
		{strings.Repeat(" ", 4001), api.ErrLong, 0}, {"x", api.ErrFormat, 0}, {" 40", api.ErrFormat, 3}, {"40- ", api.ErrFormat, 4}, {"40 41", api.ErrFormat, 3}, {"40-41 _a b;", api.ErrFormat, 6}, {"40-41 a;", api.ErrFormat, 7},
		{"40-41 a b", api.ErrFormat, 9}, {"40-41 a b 4", api.ErrFormat, 10}, {"40-41 a 9b;", api.ErrFormat, 8}, {"40-41 a b;\r", api.ErrFormat, 10}, {"40-41 a b; #\n;", api.ErrFormat, 13},
		{" 41-40 a b;", api.ErrRange, 1}, {"4-4 a b; 400-41 a b;", api.ErrFormat, 9}, {"4-4 a b; 5-5 aaaaaaaaaaaaaaaaa b;", api.ErrName, 9}, {"4-5 a b; 7-7 a b; 5-6 a b;", api.ErrExists, 18},
		{strings.Repeat("4-4 a b;", 65), api.ErrLong, 512}, {strings.Repeat("4-4 a b;", 64), api.ErrExists, 8}, {"5-4 a b; 4-4 a b x", api.ErrFormat, 17}, {"01234567890-1 a b;", api.ErrFormat, 0},
	} {
		if x, e, at := binrange.Parse(c.s); len(x) != 0 || e != c.e || at != c.at {
			t.Error(c.s, x, e, at)
		}
	}
}

func TestForms(t *testing.T) {
	good := rg("40", "41")
	for _, c := range [][2]string{{"4x", "41"}, {"40", "4x"}, {"x0", "41"}, {"", "41"}, {"40", ""}, {"40", "410"}, {"400", "41"}, {"01234567890", "12345678901"}, {"42", "41"}} {
		bad := rg(c[0], c[1])
		want := api.ErrFormat
		if c[0] == "42" {
			want = api.ErrRange
		}
		if e := binrange.Check([]api.Range{good, bad}); e != want {
			t.Error(c, e)
		}
		for _, other := range []api.Range{rg("4", "4"), good, rg("0", "9"), rg("0000000000", "9999999999")} {
			if binrange.Overlap(bad, other) || binrange.Overlap(other, bad) {
				t.Error(c, other)
			}
		}
	}
}

func TestMostSpecific(t *testing.T) {
	n, _ := pan.Make("400001", 1, 16)
	l := []api.Range{full("400000", "400999", "three", "x"), full("4000", "4099", "two", "x"), full("4", "4", "one", "x")}
	for range 3 {
		if r, ok := binrange.Find(l, n); r.Issuer != "three" || !ok {
			t.Error(r)
		}
		l = append(l[1:], l[0])
	}
	// Ranges of different lengths are no neighbours, although one number follows the other.
	two := []api.Range{rg("9", "9"), rg("10", "10")}
	if l, e := binrange.Merge(two); len(l) != 2 || e != api.OK {
		t.Error(l, e)
	}
}

func TestTextBounds(t *testing.T) {
	line := "4-4 a b;"
	long := line + strings.Repeat(" ", 4000-len(line))
	if l, e, _ := binrange.Parse(long); len(l) != 1 || e != api.OK {
		t.Error(l, e)
	}
	if l, e, at := binrange.Parse(long + " "); len(l) != 0 || e != api.ErrLong || at != 0 {
		t.Error(l, e, at)
	}
	for s, want := range map[string]int{"4 #x": 4, "4 #": 3, "4-4 a b#": 8, "4-4 a b #\n ": 11} {
		if l, e, at := binrange.Parse(s); len(l) != 0 || e != api.ErrFormat || at != want {
			t.Error(s, l, e, at)
		}
	}
	if l, e, _ := binrange.Parse(line + "#"); len(l) != 1 || e != api.OK {
		t.Error(l, e)
	}
}
