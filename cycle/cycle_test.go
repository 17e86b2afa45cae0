package cycle_test

import (
	"math"
	"slices"
	"testing"

	"cardnet/api"
	"cardnet/calendar"
	"cardnet/cycle"
)

const day = 86400

func eur(n int64) api.Money { return api.Money{Amount: n, Currency: "EUR"} }

func pos(party string, n int64) api.Position { return api.Position{Party: party, Net: eur(n)} }

func start(t *testing.T, holidays ...int) *cycle.Cycles {
	k, _ := calendar.New(holidays)
	c, e := cycle.New(k, 3600, []string{"a", "b"})
	if e != api.OK {
		t.Fatal(e)
	}
	return c
}

func TestNew(t *testing.T) {
	k, _ := calendar.New(nil)
	for i, c := range []struct {
		k       *calendar.Calendar
		cutoff  int
		parties []string
		want    api.Errno
	}{{k, 0, nil, 0}, {k, 86400, nil, 0}, {nil, -1, []string{""}, api.ErrNone}, {k, -1, []string{""}, api.ErrRange}, {k, 86401, []string{""}, api.ErrRange}, {k, 0, []string{""}, api.ErrName}} {
		if x, e := cycle.New(c.k, c.cutoff, c.parties); e != c.want || (x == nil) != (e != api.OK) {
			t.Error(i, e)
		}
	}
}

func TestOf(t *testing.T) {
	c := start(t, 4)
	for at, want := range map[int]int{0: 0, 3599: 0, 3600: 1, day + 3600: 5, 2 * day: 5, 3*day + 9999: 5, 4 * day: 5} {
		if d, e := c.Of(at); d != want || e != api.OK {
			t.Error(at, d, e)
		}
	}
	for _, at := range []int{-1, (api.MaxDate + 1) * day, math.MaxInt, api.MaxDate*day + 3600} {
		if d, e := c.Of(at); d != 0 || e != api.ErrTime {
			t.Error(at, d, e)
		}
	}
	if d, e := c.Of(api.MaxDate*day + 3599); d != api.MaxDate || e != api.OK {
		t.Error(d, e)
	}
}

func TestMove(t *testing.T) {
	c := start(t)
	move := func(at int, from, to string, m api.Money, want int, code api.Errno) {
		t.Helper()
		if d, e := c.Move(at, from, to, m); d != want || e != code {
			t.Error(d, e)
		}
	}
	move(-1, "x", "b", eur(1), 0, api.ErrTime)
	move(0, "x", "b", eur(1), 0, api.ErrNone)
	move(0, "a", "b", eur(-1), 0, api.ErrRange)
	if len(c.Open()) != 0 {
		t.Error(c.Open())
	}
	move(3600, "a", "b", eur(7), 1, 0)
	move(0, "a", "b", eur(5), 0, 0)
	move(4*day, "a", "b", eur(0), 4, 0)
	if !slices.Equal(c.Open(), []int{0, 1, 4}) || len(c.Positions(4)) != 0 || !slices.Equal(c.Positions(1), []api.Position{pos("a", -7), pos("b", 7)}) || len(c.Positions(9)) != 0 {
		t.Error(c.Open())
	}
	for _, x := range []struct {
		date int
		want api.Errno
	}{{-1, api.ErrTime}, {2, api.ErrTime}, {1, api.ErrState}, {api.MaxDate + 1, api.ErrTime}, {4, api.ErrState}} {
		if l, e := c.Close(x.date); len(l) != 0 || e != x.want || c.Closed(x.date) {
			t.Error(x.date, l, e)
		}
	}
	if _, e := c.Settle(0, nil, "EUR", ""); e != api.ErrState {
		t.Error(e)
	}
	if l, e := c.Close(0); !slices.Equal(l, []api.Position{pos("a", -5), pos("b", 5)}) || e != api.OK || !c.Closed(0) {
		t.Error(l, e)
	}
	if l, e := c.Close(0); len(l) != 0 || e != api.ErrClosed {
		t.Error(l, e)
	}
	c.Close(1)
	move(0, "b", "a", eur(1), 4, 0)
	move(3600, "a", "b", eur(3), 4, 0)
	if !slices.Equal(c.Positions(0), []api.Position{pos("a", -5), pos("b", 5)}) || !slices.Equal(c.Positions(4), []api.Position{pos("a", -2), pos("b", 2)}) || !slices.Equal(c.Open(), []int{4}) {
		t.Error(c.Positions(4))
	}
	// A cycle without movements can be closed, too.
	if l, e := c.Close(api.MaxDate); len(l) != 0 || e != api.ErrState {
		t.Error(l, e)
	}
	c.Close(4)
	if l, e := c.Close(api.MaxDate); len(l) != 0 || e != api.OK {
		t.Error(l, e)
	}
	move(api.MaxDate*day, "a", "b", eur(1), 0, api.ErrTime)
}

func TestSettle(t *testing.T) {
	c := start(t)
	c.Move(0, "a", "b", eur(100))
	c.Close(0)
	c.Close(1)
	rates := []api.Rate{{From: "EUR", To: "USD", Num: 11, Den: 10}}
	if l, e := c.Settle(0, rates, "USD", ""); len(l) != 1 || l[0] != (api.Transfer{From: "a", To: "b", Amount: api.Money{Amount: 110, Currency: "USD"}}) || e != api.OK {
		t.Error(l, e)
	}
	if l, e := c.Settle(0, nil, "EUR", "EUR"); len(l) != 1 || l[0].Amount != eur(100) || e != api.OK {
		t.Error(l, e)
	}
	for _, x := range []struct {
		date int
		to   string
		want api.Errno
	}{{4, "x", api.ErrState}, {0, "x", api.ErrCurrency}, {1, "x", api.ErrCurrency}, {0, "USD", api.ErrNone}, {1, "USD", 0}} {
		if l, e := c.Settle(x.date, nil, x.to, ""); len(l) != 0 || e != x.want {
			t.Error(x, l, e)
		}
	}
	var none *cycle.Cycles
	d, e1 := none.Of(0)
	f, e2 := none.Move(0, "a", "b", eur(1))
	_, e3 := none.Close(0)
	_, e4 := none.Settle(0, nil, "EUR", "")
	if d != 0 || f != 0 || e1 != api.ErrNone || e2 != e1 || e3 != e1 || e4 != e1 || none.Closed(0) || len(none.Positions(0)) != 0 || len(none.Open()) != 0 {
		t.Error("nil cycles")
	}
	new(cycle.Cycles).Move(0, "a", "b", eur(1))
	new(cycle.Cycles).Close(0)
}
