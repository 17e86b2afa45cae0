package position_test

import (
	"math"
	"slices"
	"testing"

	"cardnet/api"
	"cardnet/position"
)

func eur(n int64) api.Money { return api.Money{Amount: n, Currency: "EUR"} }

func pos(party string, n int64, currency string) api.Position {
	return api.Position{Party: party, Net: api.Money{Amount: n, Currency: currency}}
}

func rt(from, to string, num, den int64) api.Rate {
	return api.Rate{From: from, To: to, Num: num, Den: den}
}

func book(t *testing.T) *position.Book {
	b, e := position.New([]string{"c", "a", "b", "d"})
	if e != api.OK {
		t.Fatal(e)
	}
	return b
}

func TestNew(t *testing.T) {
	for i, c := range []struct {
		l    []string
		want api.Errno
	}{{nil, 0}, {make([]string, 17), api.ErrLong}, {[]string{"a", "a", ""}, api.ErrExists}, {[]string{"a-b"}, api.ErrName}} {
		if b, e := position.New(c.l); e != c.want || (b == nil) != (e != api.OK) {
			t.Error(i, e)
		}
	}
}

func TestMove(t *testing.T) {
	b := book(t)
	for i, c := range []struct {
		from, to string
		m        api.Money
		want     api.Errno
	}{
		{"a", "b", eur(100), 0}, {"b", "c", eur(30), 0}, {"x", "x", api.Money{}, api.ErrNone}, {"a", "x", eur(1), api.ErrNone}, {"x", "a", eur(1), api.ErrNone}, {"a", "a", api.Money{}, api.ErrRange}, {"a", "b", api.Money{Amount: -1}, api.ErrCurrency}, {"a", "b", eur(api.MaxTotal + 1), api.ErrRange}, {"a", "b", eur(-1), api.ErrRange},
		{"a", "b", eur(api.MaxTotal), api.ErrRange}, {"d", "b", eur(api.MaxTotal), api.ErrRange}, {"a", "d", eur(api.MaxTotal), api.ErrRange}, {"c", "d", eur(0), 0}, {"a", "b", api.Money{Amount: 5, Currency: "CHF"}, 0}, {"b", "a", api.Money{Amount: 5, Currency: "USD"}, 0}, {"a", "b", api.Money{Amount: 5, Currency: "USD"}, 0},
		{"d", "c", api.Money{Amount: api.MaxTotal, Currency: "GBP"}, 0}, {"c", "d", api.Money{Amount: api.MaxTotal, Currency: "GBP"}, 0},
	} {
		if e := b.Move(c.from, c.to, c.m); e != c.want {
			t.Error(i, e)
		}
	}
	if l := b.List(); !slices.Equal(l, []api.Position{pos("a", -5, "CHF"), pos("b", 5, "CHF"), pos("a", -100, "EUR"), pos("b", 70, "EUR"), pos("c", 30, "EUR")}) {
		t.Error(l)
	}
	if l := b.Currencies(); !slices.Equal(l, []string{"CHF", "EUR"}) {
		t.Error(l)
	}
	for _, c := range []struct {
		party, currency string
		want            int64
	}{{"a", "EUR", -100}, {"d", "EUR", 0}, {"x", "EUR", 0}, {"a", "USD", 0}, {"a", "", 0}} {
		if n := b.Net(c.party, c.currency); n != c.want {
			t.Error(c, n)
		}
	}
}

func TestConvert(t *testing.T) {
	b := book(t)
	b.Move("a", "b", eur(100))
	b.Move("b", "c", eur(30))
	rates := []api.Rate{rt("EUR", "USD", 11, 10), rt("EUR", "GBP", 1, 2)}
	if l, e := b.Convert(rates, "USD", ""); !slices.Equal(l, []api.Position{pos("a", -110, "USD"), pos("b", 77, "USD"), pos("c", 33, "USD")}) || e != api.OK {
		t.Error(l, e)
	}
	if l, e := b.Convert(nil, "EUR", ""); !slices.Equal(l, b.List()) || e != api.OK {
		t.Error(l, e)
	}
	b.Move("c", "a", api.Money{Amount: 110, Currency: "USD"})
	if l, e := b.Convert(rates, "USD", ""); !slices.Equal(l, []api.Position{pos("b", 77, "USD"), pos("c", -77, "USD")}) || e != api.OK {
		t.Error(l, e)
	}
	if l, e := b.Convert(rates, "GBP", "EUR"); !slices.Equal(l, []api.Position{pos("b", 35, "GBP"), pos("c", -35, "GBP")}) || e != api.OK {
		t.Error(l, e)
	}
	for i, c := range []struct {
		l         []api.Rate
		to, pivot string
		want      api.Errno
	}{{nil, "usd", "", api.ErrCurrency}, {nil, "USD", "", api.ErrNone}, {rates, "GBP", "", api.ErrNone}, {[]api.Rate{rt("EUR", "USD", 1<<40, 1)}, "USD", "", 0}} {
		if l, e := b.Convert(c.l, c.to, c.pivot); e != c.want || e != api.OK && len(l) != 0 {
			t.Error(i, l, e)
		}
	}
	three := book(t)
	for i, p := range []string{"a", "b", "c"} {
		three.Move("d", p, eur([]int64{4, 3, 3}[i]))
	}
	if l, e := three.Convert([]api.Rate{rt("EUR", "USD", 1, 1)}, "USD", ""); !slices.Equal(l, []api.Position{pos("a", 4, "USD"), pos("b", 3, "USD"), pos("c", 3, "USD"), pos("d", -10, "USD")}) || e != api.OK {
		t.Error(l, e)
	}
	half := book(t)
	half.Move("a", "b", eur(1))
	if l, e := half.Convert([]api.Rate{rt("EUR", "USD", 1, 2)}, "USD", ""); len(l) != 0 || e != api.OK {
		t.Error("halves go to the even number", l, e)
	}
	big := book(t)
	big.Move("a", "b", eur(1<<41))
	if l, e := big.Convert(rates, "USD", ""); len(l) != 0 || e != api.ErrRange {
		t.Error("weights that money.Split does not accept", l, e)
	}
	big = book(t)
	big.Move("a", "b", api.Money{Amount: api.MaxTotal, Currency: "USD"})
	big.Move("a", "b", eur(1))
	if l, e := big.Convert(rates, "USD", ""); len(l) != 0 || e != api.ErrRange {
		t.Error(l, e)
	}
	big.Move("c", "d", eur(api.MaxTotal))
	if l, e := big.Convert(rates, "USD", ""); len(l) != 0 || e != api.ErrRange {
		t.Error(l, e)
	}
}

func TestSum(t *testing.T) {
	for i, c := range []struct {
		l    []int64
		want int64
	}{
		{nil, 0}, {[]int64{5, -7}, -2}, {[]int64{1 << 62}, 1 << 62}, {[]int64{1 << 62, 1}, 1 << 62}, {[]int64{-1 << 62, -1}, -1 << 62}, {[]int64{math.MaxInt64, math.MaxInt64, -math.MaxInt64, -math.MaxInt64, 3}, 3}, {[]int64{math.MaxInt64, math.MaxInt64}, 1 << 62}, {[]int64{math.MinInt64, math.MinInt64}, -1 << 62},
		{[]int64{math.MinInt64, math.MinInt64, math.MaxInt64, math.MaxInt64}, -2}, {[]int64{math.MinInt64}, -1 << 62}, {[]int64{math.MinInt64, math.MinInt64, math.MinInt64, math.MinInt64}, -1 << 62}, {[]int64{math.MaxInt64, math.MaxInt64, 2}, 1 << 62}, {[]int64{math.MaxInt64, 1}, 1 << 62}, {[]int64{math.MinInt64, -1}, -1 << 62},
	} {
		l := []api.Position{pos("a", 99, "USD")}
		for _, n := range c.l {
			l = append(l, pos("", n, "EUR"))
		}
		if n := position.Sum(l, "EUR"); n != c.want {
			t.Error(i, n)
		}
	}
}

func TestNone(t *testing.T) {
	var b *position.Book
	if l, e := b.Convert(nil, "EUR", ""); len(l) != 0 || e != api.ErrNone || b.Move("a", "b", eur(1)) != e || b.Net("a", "EUR") != 0 || len(b.List()) != 0 || len(b.Currencies()) != 0 {
		t.Error("nil book")
	}
	new(position.Book).Move("a", "b", eur(1))
}

func TestBounds(t *testing.T) {
	var parties []string
	for i := range 16 {
		parties = append(parties, "p"+string(rune('a'+i)))
	}
	b, e := position.New(parties)
	if e != api.OK {
		t.Fatal(e)
	}
	// The creditors can be weights, their debtor cannot.
	b.Move("pp", "pa", eur(1<<40))
	b.Move("pp", "pb", eur(1<<40))
	rates := []api.Rate{rt("EUR", "USD", 1, 1)}
	if l, e := b.Convert(rates, "USD", ""); len(l) != 0 || e != api.ErrRange {
		t.Error(l, e)
	}
	b.Move("pa", "pp", eur(1<<40))
	if l, e := b.Convert(rates, "USD", ""); len(l) != 2 || e != api.OK {
		t.Error(l, e)
	}
	if b.Move("pc", "pd", eur(api.MaxTotal)) != api.OK || b.Net("pc", "EUR") != -api.MaxTotal || b.Move("pc", "pe", eur(1)) != api.ErrRange || b.Move("pe", "pd", eur(1)) != api.ErrRange {
		t.Error(b.Net("pc", "EUR"))
	}
}
