package adjust_test

import (
	"math"
	"testing"

	"cardnet/adjust"
	"cardnet/api"
)

func eur(n int64) api.Money { return api.Money{Amount: n, Currency: "EUR"} }

func present() api.Record {
	return api.Record{Kind: api.RcPresent, Id: "p", Auth: "a", Acquirer: "shop", Issuer: "home", Merchant: "m", Card: "4000000000000077", Amount: eur(1000), Date: 10, Category: 5411}
}

func disputed() api.Case { return api.Case{Id: "d", Record: "p", Amount: eur(600)} }

func TestHolder(t *testing.T) {
	for stage, want := range map[int]int{-1: 0, 0: 2, 1: 1, 2: 2, 3: 2, 4: 2, 5: 1, 6: 2, 7: 0} {
		if n := adjust.Holder(stage); n != want {
			t.Error(stage, n)
		}
	}
}

func TestMove(t *testing.T) {
	moved := func(kind, n int) api.Record {
		r := present()
		r.Kind, r.Id, r.Auth, r.Amount, r.Date, r.Final = kind, "d-"+string(rune('0'+n)), "", eur(600), 20, true
		return r
	}
	for i, c := range []struct {
		from, to, n int
		want        api.Record
		ok          bool
	}{
		{0, 1, 1, moved(api.RcChargeback, 1), true}, {1, 2, 2, moved(api.RcRepresent, 2), true}, {2, 3, 3, api.Record{}, false}, {1, 5, 2, api.Record{}, false}, {3, 5, 3, moved(api.RcChargeback, 3), true}, {3, 4, 3, api.Record{}, false}, {4, 5, 3, moved(api.RcChargeback, 3), true}, {4, 6, 3, api.Record{}, false}, {2, 6, 3, api.Record{}, false},
	} {
		if r, ok, e := adjust.Move(disputed(), present(), c.from, c.to, 20, c.n); r != c.want || ok != c.ok || e != api.OK {
			t.Error(i, r, ok, e)
		}
	}
	for i, c := range []struct {
		change            func(c *api.Case, r *api.Record)
		from, to, date, n int
		want              api.Errno
	}{
		{func(c *api.Case, r *api.Record) { r.Card = "" }, -1, 1, 20, 1, api.ErrRange}, {func(c *api.Case, r *api.Record) {}, 7, 1, 20, 1, api.ErrRange}, {func(c *api.Case, r *api.Record) {}, 0, 0, 20, 1, api.ErrRange}, {func(c *api.Case, r *api.Record) {}, 0, 7, 20, 1, api.ErrRange}, {func(c *api.Case, r *api.Record) { r.Card = "" }, 1, 4, 20, 1, api.ErrState}, {func(c *api.Case, r *api.Record) {}, 0, 2, 20, 1, api.ErrState}, {func(c *api.Case, r *api.Record) {}, 5, 1, 20, 1, api.ErrState},
		{func(c *api.Case, r *api.Record) { r.Card, r.Kind = "", 2 }, 0, 1, 20, 1, api.ErrCard}, {func(c *api.Case, r *api.Record) { r.Kind, c.Record = 2, "x" }, 0, 1, 20, 1, api.ErrRange}, {func(c *api.Case, r *api.Record) { c.Record, c.Amount = "x", eur(0) }, 0, 1, 20, 1, api.ErrNone}, {func(c *api.Case, r *api.Record) { c.Amount = api.Money{Amount: 0, Currency: "USD"} }, 0, 1, 20, 1, api.ErrCurrency},
		{func(c *api.Case, r *api.Record) { c.Amount = eur(0) }, 0, 1, 9, 1, api.ErrRange}, {func(c *api.Case, r *api.Record) { c.Amount = eur(1001) }, 0, 1, 20, 1, api.ErrRange}, {func(c *api.Case, r *api.Record) {}, 0, 1, 9, 0, api.ErrRange}, {func(c *api.Case, r *api.Record) {}, 0, 1, 20, 100, api.ErrRange}, {func(c *api.Case, r *api.Record) { c.Id = "a b" }, 0, 1, 9, 1, api.ErrTime}, {func(c *api.Case, r *api.Record) {}, 0, 1, api.MaxDate + 1, 1, api.ErrTime},
		{func(c *api.Case, r *api.Record) { c.Id = "a b" }, 0, 1, 20, 1, api.ErrName}, {func(c *api.Case, r *api.Record) { c.Id = "123456789012345" }, 2, 3, 20, 1, api.ErrName}, {func(c *api.Case, r *api.Record) { c.Id = "12345678901234" }, 2, 3, 20, 9, 0}, {func(c *api.Case, r *api.Record) {}, 2, 3, 9, 1, api.ErrTime}, {func(c *api.Case, r *api.Record) { c.Id = "12345678901234" }, 2, 3, 20, 10, api.ErrName},
	} {
		x, r := disputed(), present()
		c.change(&x, &r)
		if m, ok, e := adjust.Move(x, r, c.from, c.to, c.date, c.n); m != (api.Record{}) || ok || e != c.want {
			t.Error(i, m, ok, e)
		}
	}
}

func TestMoves(t *testing.T) {
	for i, c := range []struct {
		stages []int
		kinds  []int
		net    int64
	}{
		{nil, nil, 0}, {[]int{1}, []int{3}, 600}, {[]int{1, 2, 3, 5}, []int{3, 4, 3}, 600}, {[]int{1, 2, 3, 4, 6}, []int{3, 4}, 0}, {[]int{1, 5}, []int{3}, 600}, {[]int{1, 2, 6}, []int{3, 4}, 0}, {[]int{1, 2, 3, 4, 5}, []int{3, 4, 3}, 600},
	} {
		l, e := adjust.Moves(disputed(), present(), c.stages, 20)
		if len(l) != len(c.kinds) || e != api.OK || adjust.Net(l) != c.net {
			t.Error(i, l, e)
			continue
		}
		for k, r := range l {
			if r.Kind != c.kinds[k] || r.Id != "d-"+string(rune('1'+k)) {
				t.Error(i, r)
			}
		}
		x := disputed()
		for stage := -1; stage <= 7; stage++ {
			x.Stage = stage
			want := adjust.Holder(stage) == 2 && c.net == 0 || adjust.Holder(stage) == 1 && c.net == 600
			if adjust.Final(x, l) != want {
				t.Error(i, stage)
			}
		}
	}
	for i, stages := range [][]int{{2}, {1, 3}, {1, 2, 3, 4, 6, 1}} {
		if l, e := adjust.Moves(disputed(), present(), stages, 20); len(l) != 0 || e != api.ErrState {
			t.Error(i, l, e)
		}
	}
	if l, e := adjust.Moves(disputed(), present(), []int{1, 9}, 20); len(l) != 0 || e != api.ErrRange {
		t.Error(l, e)
	}
}

func TestNetFinal(t *testing.T) {
	r := func(kind int, n int64) api.Record { return api.Record{Kind: kind, Amount: eur(n)} }
	if n := adjust.Net([]api.Record{r(3, 5), r(4, 2), r(1, 99), r(2, 99), r(3, 0), r(4, -1), r(3, api.MaxAmount+1), r(3, math.MinInt64), r(9, 4)}); n != 3 {
		t.Error(n)
	}
	c := disputed()
	c.Stage = api.DsWon
	for i, x := range []struct {
		l    []api.Record
		want bool
	}{{[]api.Record{r(3, 600)}, true}, {[]api.Record{r(3, 599)}, false}, {[]api.Record{r(4, 600)}, false}, {[]api.Record{r(3, 600), r(3, 600)}, false}, {[]api.Record{r(3, 600), r(4, 600)}, false}, {[]api.Record{r(3, 600), r(4, 600), r(3, 600)}, true}, {nil, false}, {[]api.Record{{Kind: 3, Amount: api.Money{Amount: 600, Currency: "USD"}}}, false}} {
		if adjust.Final(c, x.l) != x.want {
			t.Error(i)
		}
	}
}

func TestBounds(t *testing.T) {
	c, r := disputed(), present()
	for i, amount := range []int64{1, 1000} {
		c.Amount = eur(amount)
		for _, date := range []int{10, api.MaxDate} {
			if m, ok, e := adjust.Move(c, r, 0, 1, date, 99); m.Amount != eur(amount) || m.Date != date || m.Id != "d-99" || !ok || e != api.OK {
				t.Error(i, m, ok, e)
			}
		}
	}
	if n := adjust.Net([]api.Record{{Kind: api.RcChargeback, Amount: eur(1)}, {Kind: api.RcChargeback, Amount: eur(api.MaxAmount)}}); n != api.MaxAmount+1 {
		t.Error(n)
	}
}
