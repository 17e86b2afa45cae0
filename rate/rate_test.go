package rate_test

import (
	"math"
	"testing"

	"cardnet/api"
	"cardnet/rate"
)

func r(from, to string, num, den int64) api.Rate {
	return api.Rate{From: from, To: to, Num: num, Den: den}
}

const big = 1 << 40

func TestCheck(t *testing.T) {
	for x, want := range map[api.Rate]api.Errno{
		r("USD", "EUR", 1, 1): api.OK, r("USD", "EUR", big, big): api.OK, r("USD", "USD", 1, 1): api.ErrCurrency,
		r("usd", "EUR", 0, 1): api.ErrCurrency, r("USD", "", 1, 1): api.ErrCurrency, r("USD", "EUR", 0, 1): api.ErrRange,
		r("USD", "EUR", 1, 0): api.ErrRange, r("USD", "EUR", big+1, 1): api.ErrRange, r("USD", "EUR", 1, big+1): api.ErrRange,
		r("USD", "EUR", -1, 1): api.ErrRange,
	} {
		if e := rate.Check(x); e != want {
			t.Error(x, e)
		}
	}
}

func TestReduce(t *testing.T) {
	for _, c := range [][4]int64{{6, 4, 3, 2}, {7, 7, 1, 1}, {0, 4, 0, 4}, {4, 0, 4, 0}, {-6, 4, -6, 4}, {5, 3, 5, 3}, {math.MaxInt64, math.MaxInt64, 1, 1}} {
		if a, b := rate.Reduce(c[0], c[1]); a != c[2] || b != c[3] {
			t.Error(c, a, b)
		}
	}
}

func TestConvert(t *testing.T) {
	x := r("USD", "JPY", 3021, 20)
	if m, e := rate.Convert(api.Money{Amount: 1000, Currency: "USD"}, x, api.HalfEven); m != (api.Money{Amount: 151050, Currency: "JPY"}) || e != api.OK {
		t.Error(m, e)
	}
	for mode, want := range map[int]int64{api.Down: 1, api.Up: 2, api.HalfUp: 2, api.HalfEven: 2} {
		if m, e := rate.Convert(api.Money{Amount: 3, Currency: "USD"}, r("USD", "EUR", 1, 2), mode); m.Amount != want || e != api.OK {
			t.Error(mode, m, e)
		}
	}
	for i, c := range []struct {
		m    api.Money
		x    api.Rate
		mode int
		want api.Errno
	}{
		{api.Money{Amount: api.MaxTotal + 1, Currency: "USD"}, api.Rate{}, 1, api.ErrRange},
		{api.Money{Currency: "USD"}, api.Rate{}, 1, api.ErrCurrency},
		{api.Money{Currency: "EUR"}, r("USD", "EUR", 0, 1), 1, api.ErrRange},
		{api.Money{Currency: "EUR"}, x, 0, api.ErrCurrency},
		{api.Money{Currency: "USD"}, x, 0, api.ErrRange},
		{api.Money{Amount: api.MaxTotal, Currency: "USD"}, x, 1, api.ErrRange},
		{api.Money{Amount: 145295143558111, Currency: "USD"}, r("USD", "EUR", 253921, 2), api.Down, api.ErrRange},
		{api.Money{Amount: 145295143558111, Currency: "USD"}, r("USD", "EUR", 253921, 2), api.Up, api.ErrRange},
		{api.Money{Amount: -145295143558111, Currency: "USD"}, r("USD", "EUR", 253921, 2), api.HalfUp, api.ErrRange},
		{api.Money{Amount: 145295143558111, Currency: "USD"}, r("USD", "EUR", 253921, 2), api.HalfEven, api.ErrRange},
	} {
		if m, e := rate.Convert(c.m, c.x, c.mode); m != (api.Money{}) || e != c.want {
			t.Error(i, m, e)
		}
	}
}

func TestInverseCrossMarkup(t *testing.T) {
	if x, e := rate.Inverse(r("USD", "JPY", 6, 4)); x != r("JPY", "USD", 2, 3) || e != api.OK {
		t.Error(x, e)
	}
	if x, e := rate.Inverse(r("USD", "USD", 6, 4)); x != (api.Rate{}) || e != api.ErrCurrency {
		t.Error(x, e)
	}
	a, b := r("USD", "EUR", 9, 10), r("EUR", "GBP", 5, 6)
	if x, e := rate.Cross(a, b); x != r("USD", "GBP", 3, 4) || e != api.OK {
		t.Error(x, e)
	}
	if x, e := rate.Cross(r("USD", "EUR", big, 3), r("EUR", "GBP", 3, big)); x != r("USD", "GBP", 1, 1) || e != api.OK {
		t.Error(x, e)
	}
	if x, e := rate.Cross(r("USD", "EUR", big/2, 1), r("EUR", "GBP", 2, big-1)); x != r("USD", "GBP", big, big-1) || e != api.OK {
		t.Error(x, e)
	}
	if x, e := rate.Cross(r("USD", "EUR", 3, big/2), r("EUR", "GBP", 1, 2)); x != r("USD", "GBP", 3, big) || e != api.OK {
		t.Error(x, e)
	}
	for i, c := range []struct {
		a, b api.Rate
		want api.Errno
	}{
		{r("USD", "EUR", 0, 1), api.Rate{}, api.ErrRange}, {a, api.Rate{}, api.ErrCurrency}, {a, r("GBP", "JPY", 1, 1), api.ErrCurrency},
		{a, r("EUR", "USD", 1, 1), api.ErrCurrency}, {r("USD", "EUR", big, 1), r("EUR", "GBP", 2, 1), api.ErrRange},
		{r("USD", "EUR", 1, big), r("EUR", "GBP", 1, 3), api.ErrRange}, {r("USD", "EUR", big, 1), r("EUR", "GBP", big, 1), api.ErrRange},
	} {
		if x, e := rate.Cross(c.a, c.b); x != (api.Rate{}) || e != c.want {
			t.Error(i, x, e)
		}
	}
	for bps, want := range map[int]api.Rate{100: r("USD", "EUR", 909, 1000), 0: a, -9999: r("USD", "EUR", 9, 100000), 100000: r("USD", "EUR", 99, 10)} {
		if x, e := rate.Markup(a, bps); x != want || e != api.OK {
			t.Error(bps, x, e)
		}
	}
	for _, bps := range []int{-10000, 100001, math.MinInt, math.MaxInt} {
		if x, e := rate.Markup(a, bps); x != (api.Rate{}) || e != api.ErrRange {
			t.Error(bps, x, e)
		}
	}
	if _, e := rate.Markup(r("USD", "EUR", big, 1), 1); e != api.ErrRange {
		t.Error(e)
	}
	if _, e := rate.Markup(api.Rate{}, -10000); e != api.ErrCurrency {
		t.Error(e)
	}
}

func TestFind(t *testing.T) {
	l := []api.Rate{r("EUR", "USD", 0, 9), r("EUR", "USD", 10, 9), r("EUR", "USD", 1, 1), r("EUR", "GBP", 10, 12), r("CHF", "EUR", big, 1), r("EUR", "SEK", 3, 1)}
	for i, c := range []struct {
		from, to, pivot string
		want            api.Rate
		e               api.Errno
	}{
		{"USD", "GBP", "EUR", r("USD", "GBP", 3, 4), 0}, {"EUR", "USD", "EUR", r("EUR", "USD", 10, 9), 0},
		{"USD", "EUR", "", r("USD", "EUR", 9, 10), 0}, {"EUR", "GBP", "", r("EUR", "GBP", 10, 12), 0},
		{"EUR", "EUR", "USD", api.Rate{}, api.ErrCurrency}, {"x", "x", "", api.Rate{}, api.ErrCurrency},
		{"USD", "JPY", "EUR", api.Rate{}, api.ErrNone}, {"JPY", "USD", "EUR", api.Rate{}, api.ErrNone}, {"USD", "GBP", "CHF", api.Rate{}, api.ErrNone},
		{"CHF", "SEK", "EUR", api.Rate{}, api.ErrRange}, {"USD", "GBP", "USD", api.Rate{}, api.ErrNone},
	} {
		if x, e := rate.Find(l, c.from, c.to, c.pivot); x != c.want || e != c.e {
			t.Error(i, x, e)
		}
	}
	// A stated rate counts before an inverse one, wherever it stands.
	if x, _ := rate.Find([]api.Rate{r("USD", "EUR", 2, 1), r("EUR", "USD", 3, 1)}, "EUR", "USD", ""); x != r("EUR", "USD", 3, 1) {
		t.Error(x)
	}
}

func TestText(t *testing.T) {
	x := r("USD", "EUR", 18, 20)
	if rate.Format(x) != "USD/EUR 18/20" || rate.Format(r("USD", "EUR", 0, 1)) != "" {
		t.Error(rate.Format(x))
	}
	if y, e := rate.Parse("USD/EUR 18/20"); y != x || e != api.OK {
		t.Error(y, e)
	}
	for s, want := range map[string]api.Errno{
		"": api.ErrShort, "USD/EUR": api.ErrFormat, "USD/EUR 1": api.ErrFormat, "USD/EUR 1/": api.ErrFormat, "USD/EUR 01/2": api.ErrFormat,
		"USD-EUR 1/2": api.ErrFormat, "USD/EUR  1/2": api.ErrFormat, "USD/EUR 1/2/3": api.ErrFormat, "USDEUR 1/2": api.ErrFormat,
		"USD/EUR -1/2": api.ErrRange, "USD/EUR 0/2": api.ErrRange, "usd/EUR 1/2": api.ErrCurrency, "USD/USD 0/2": api.ErrCurrency,
		"USD/EUR 1099511627777/2": api.ErrRange, "USD/EUR 1/2 ": api.ErrFormat, "USD/EUR_1/2": api.ErrFormat,
	} {
		if y, e := rate.Parse(s); y != (api.Rate{}) || e != want {
			t.Error(s, y, e)
		}
	}
}
