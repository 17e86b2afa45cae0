package money_test

import (
	"math"
	"slices"
	"testing"

	"cardnet/api"
	"cardnet/money"
)

func usd(n int64) api.Money { return api.Money{Amount: n, Currency: "USD"} }

func TestCheck(t *testing.T) {
	for m, want := range map[api.Money]api.Errno{
		usd(0): api.OK, usd(api.MaxTotal): api.OK, usd(-api.MaxTotal): api.OK, usd(api.MaxTotal + 1): api.ErrRange,
		usd(math.MinInt64): api.ErrRange, {Currency: "US"}: api.ErrCurrency, {Currency: "USDD"}: api.ErrCurrency,
		{Currency: "US1"}: api.ErrCurrency, {Amount: math.MaxInt64, Currency: "usd"}: api.ErrCurrency, {}: api.ErrCurrency,
	} {
		if e := money.Check(m); e != want {
			t.Error(m, e)
		}
	}
}

func TestAddSubCmp(t *testing.T) {
	bad := api.Money{Amount: api.MaxTotal + 1, Currency: "USD"}
	eur := api.Money{Amount: 1, Currency: "EUR"}
	for i, c := range []struct {
		a, b     api.Money
		sum, dif int64
		order    int
		e        [3]api.Errno
	}{
		{usd(3), usd(5), 8, -2, -1, [3]api.Errno{}},
		{usd(5), usd(5), 10, 0, 0, [3]api.Errno{}},
		{usd(6), usd(-5), 1, 11, 1, [3]api.Errno{}},
		{usd(api.MaxTotal), usd(1), 0, api.MaxTotal - 1, 1, [3]api.Errno{api.ErrRange, 0, 0}},
		{usd(-api.MaxTotal), usd(1), 1 - api.MaxTotal, 0, -1, [3]api.Errno{0, api.ErrRange, 0}},
		{bad, api.Money{}, 0, 0, 0, [3]api.Errno{api.ErrRange, api.ErrRange, api.ErrRange}},
		{eur, bad, 0, 0, 0, [3]api.Errno{api.ErrRange, api.ErrRange, api.ErrRange}},
		{eur, usd(1), 0, 0, 0, [3]api.Errno{api.ErrCurrency, api.ErrCurrency, api.ErrCurrency}},
	} {
		x, e0 := money.Add(c.a, c.b)
		y, e1 := money.Sub(c.a, c.b)
		n, e2 := money.Cmp(c.a, c.b)
		if x.Amount != c.sum || y.Amount != c.dif || n != c.order || [3]api.Errno{e0, e1, e2} != c.e {
			t.Error(i, x, y, n, e0, e1, e2)
		}
		if e0 != api.OK && x != (api.Money{}) || e0 == api.OK && x.Currency != "USD" {
			t.Error(i, x)
		}
	}
}

func TestScale(t *testing.T) {
	for i, c := range []struct {
		n, num, den int64
		want        [4]int64
	}{
		{1001, 1, 2, [4]int64{500, 501, 501, 500}},
		{1003, 1, 2, [4]int64{501, 502, 502, 502}},
		{-1001, 1, 2, [4]int64{-500, -501, -501, -500}},
		{1001, -1, 4, [4]int64{-250, -251, -250, -250}},
		{-1003, -1, 4, [4]int64{250, 251, 251, 251}},
		{0, -5, 3, [4]int64{}},
		{1000, 1, 3, [4]int64{333, 334, 333, 333}},
		{5, 1, 4, [4]int64{1, 2, 1, 1}},
		{7, -1 << 40, 1, [4]int64{-7 << 40, -7 << 40, -7 << 40, -7 << 40}},
		{api.MaxTotal, 1 << 40, 1 << 40, [4]int64{api.MaxTotal, api.MaxTotal, api.MaxTotal, api.MaxTotal}},
	} {
		for mode := api.Down; mode <= api.HalfEven; mode++ {
			x, e := money.Scale(usd(c.n), c.num, c.den, mode)
			if x != usd(c.want[mode-1]) || e != api.OK {
				t.Error(i, mode, x, e)
			}
		}
	}
	for i, c := range []struct {
		m        api.Money
		num, den int64
		mode     int
		want     api.Errno
	}{
		{usd(1), 1, 0, 1, api.ErrRange}, {usd(1), 1, -1, 1, api.ErrRange}, {usd(1), 1, 1<<40 + 1, 1, api.ErrRange},
		{usd(1), 1<<40 + 1, 1, 1, api.ErrRange}, {usd(1), -1<<40 - 1, 1, 1, api.ErrRange}, {usd(1), 1, 1, 0, api.ErrRange},
		{usd(1), 1, 1, 5, api.ErrRange}, {usd(api.MaxTotal), 2, 1, 1, api.ErrRange}, {usd(api.MaxTotal), 1 << 40, 1, 1, api.ErrRange},
		{api.Money{Currency: "x"}, 1, 0, 9, api.ErrCurrency}, {usd(api.MaxTotal), 1<<40 - 1, 1<<40 - 2, api.Up, api.ErrRange},
		{usd(145295143558111), 253921, 2, api.Down, api.ErrRange}, {usd(145295143558111), 253921, 2, api.Up, api.ErrRange},
		{usd(-145295143558111), 253921, 2, api.HalfUp, api.ErrRange}, {usd(145295143558111), -253921, 2, api.HalfEven, api.ErrRange},
	} {
		if x, e := money.Scale(c.m, c.num, c.den, c.mode); e != c.want || x != (api.Money{}) {
			t.Error(i, x, e)
		}
	}
}

func TestSplit(t *testing.T) {
	for i, c := range []struct {
		n       int64
		w, want []int64
	}{
		{100, []int64{1, 1, 1}, []int64{34, 33, 33}},
		{5, []int64{1, 0, 2}, []int64{2, 0, 3}},
		{0, []int64{7, 1}, []int64{0, 0}},
		{-5, []int64{1, 0, 2}, []int64{-2, 0, -3}},
		{10, []int64{3, 3, 4}, []int64{3, 3, 4}},
		{11, []int64{1, 5, 5}, []int64{1, 5, 5}},
		{2, []int64{1, 2, 2}, []int64{0, 1, 1}},
		{api.MaxTotal, []int64{1 << 40, 1 << 40}, []int64{api.MaxTotal / 2, api.MaxTotal / 2}},
	} {
		l, e := money.Split(usd(c.n), c.w)
		got := []int64{}
		for _, m := range l {
			got = append(got, m.Amount)
			if m.Currency != "USD" {
				t.Error(i, m)
			}
		}
		if e != api.OK || !slices.Equal(got, c.want) {
			t.Error(i, got, e)
		}
	}
	for i, w := range [][]int64{nil, {0}, {-1, 2}, {1<<40 + 1}, make([]int64, 65)} {
		if l, e := money.Split(usd(1), w); e != api.ErrRange || len(l) != 0 {
			t.Error(i, l, e)
		}
	}
	many := slices.Repeat([]int64{1}, 65)
	if _, e := money.Split(usd(1), many); e != api.ErrRange {
		t.Error(e)
	}
	if l, e := money.Split(usd(65), many[:64]); e != api.OK || l[0].Amount != 2 || l[63].Amount != 1 {
		t.Error(l, e)
	}
	if _, e := money.Split(api.Money{}, nil); e != api.ErrCurrency {
		t.Error(e)
	}
}

func TestSum(t *testing.T) {
	if m, e := money.Sum("USD", []api.Money{usd(1), usd(-3)}); m != usd(-2) || e != api.OK {
		t.Error(m, e)
	}
	if m, e := money.Sum("USD", nil); m != usd(0) || e != api.OK {
		t.Error(m, e)
	}
	if m, e := money.Sum("usd", nil); m != (api.Money{}) || e != api.ErrCurrency {
		t.Error(m, e)
	}
	if m, e := money.Sum("USD", []api.Money{usd(api.MaxTotal), usd(1), {}}); m != (api.Money{}) || e != api.ErrRange {
		t.Error(m, e)
	}
	if m, e := money.Sum("USD", []api.Money{usd(1), {Amount: 1, Currency: "EUR"}}); m != (api.Money{}) || e != api.ErrCurrency {
		t.Error(m, e)
	}
}

func TestExponent(t *testing.T) {
	for c, want := range map[string]int{"JPY": 0, "KRW": 0, "VND": 0, "CLP": 0, "ISK": 0, "BHD": 3, "KWD": 3, "JOD": 3, "OMR": 3, "TND": 3, "EUR": 2, "ZZZ": 2} {
		if n, ok := money.Exponent(c); n != want || !ok {
			t.Error(c, n, ok)
		}
	}
	for _, c := range []string{"", "jpy", "BHDD"} {
		if n, ok := money.Exponent(c); n != 0 || ok {
			t.Error(c, n, ok)
		}
	}
}

func TestText(t *testing.T) {
	for s, m := range map[string]api.Money{
		"-12.34 USD": usd(-1234), "0.05 USD": usd(5), "0.00 USD": usd(0), "10.00 USD": usd(1000),
		"-1234 JPY": {Amount: -1234, Currency: "JPY"}, "0 JPY": {Currency: "JPY"}, "0.001 BHD": {Amount: 1, Currency: "BHD"},
		"45035996273704.96 USD": usd(api.MaxTotal),
	} {
		if money.Format(m) != s {
			t.Error(money.Format(m), s)
		}
		if x, e := money.Parse(s); x != m || e != api.OK {
			t.Error(s, x, e)
		}
	}
	for s, want := range map[string]api.Errno{
		"": api.ErrShort, "01.00 USD": api.ErrFormat, "-0.00 USD": api.ErrFormat, "1.0 USD": api.ErrFormat, "1.000 USD": api.ErrFormat,
		"1 USD": api.ErrFormat, ".50 USD": api.ErrFormat, "1.00  USD": api.ErrFormat, "1.00 USD ": api.ErrFormat, "1.5 JPY": api.ErrFormat,
		"-0 JPY": api.ErrFormat, "00 JPY": api.ErrFormat, "--1 JPY": api.ErrFormat, "1.00 usd": api.ErrFormat, " 1.00 USD": api.ErrFormat,
		"1.-0 USD": api.ErrFormat, "1..0 USD": api.ErrFormat, "USD": api.ErrFormat, " USD": api.ErrFormat, "1 usd": api.ErrFormat, "1": api.ErrFormat,
		"45035996273704.97 USD": api.ErrRange, "-45035996273704.97 USD": api.ErrRange, "99999999999999999999999 JPY": api.ErrRange,
	} {
		if x, e := money.Parse(s); x != (api.Money{}) || e != want {
			t.Error(s, x, e)
		}
	}
	if money.Format(usd(api.MaxTotal+1)) != "" || money.Format(api.Money{Amount: 1, Currency: "x"}) != "" {
		t.Error("Format of what is not valid")
	}
}
