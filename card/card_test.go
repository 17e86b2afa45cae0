package card_test

import (
	"math"
	"testing"

	"cardnet/api"
	"cardnet/card"
)

const number = "4000000000000077"

func active(t *testing.T, amount int64, count int) *card.Card {
	c, e := card.New(number, 100, amount, count)
	if e != api.OK || c.State() != api.CardIssued || c.Number() != number || c.Expiry() != 100 || c.Do(1) != api.OK {
		t.Fatal(c, e)
	}
	return c
}

func TestNew(t *testing.T) {
	for i, c := range []struct {
		number string
		expiry int
		amount int64
		count  int
		want   api.Errno
	}{
		{number, 0, 0, 0, 0}, {number, api.MaxDate, api.MaxAmount, 1000, 0}, {"4000000000000078", -1, -1, -1, api.ErrChecksum}, {"", 0, 0, 0, api.ErrShort},
		{number, -1, -1, 0, api.ErrTime}, {number, api.MaxDate + 1, 0, 0, api.ErrTime}, {number, 0, -1, 0, api.ErrRange}, {number, 0, api.MaxAmount + 1, 0, api.ErrRange},
		{number, 0, 0, -1, api.ErrRange}, {number, 0, 0, 1001, api.ErrRange},
	} {
		if x, e := card.New(c.number, c.expiry, c.amount, c.count); e != c.want || (x == nil) != (e != api.OK) {
			t.Error(i, x, e)
		}
	}
}

func TestLifeCycle(t *testing.T) {
	want := map[[2]int]int{{api.CardIssued, 1}: api.CardActive, {api.CardActive, 2}: api.CardBlocked, {api.CardBlocked, 3}: api.CardActive, {api.CardIssued, 4}: api.CardClosed, {api.CardActive, 4}: api.CardClosed, {api.CardBlocked, 4}: api.CardClosed}
	for state := 0; state <= 5; state++ {
		for event := 0; event <= 5; event++ {
			next, e := card.Next(state, event)
			code := api.ErrState
			if state == 0 || state == 5 || event == 0 || event == 5 {
				code = api.ErrRange
			} else if want[[2]int{state, event}] != 0 {
				code = api.OK
			}
			if next != want[[2]int{state, event}] || e != code {
				t.Error(state, event, next, e)
			}
		}
	}
	c := active(t, 1000, 2)
	for i, x := range []struct {
		event int
		e     api.Errno
		state int
	}{{1, api.ErrState, 2}, {3, api.ErrState, 2}, {0, api.ErrRange, 2}, {2, 0, 3}, {3, 0, 2}, {4, 0, 4}, {4, api.ErrState, 4}, {1, api.ErrState, 4}} {
		if e := c.Do(x.event); e != x.e || c.State() != x.state {
			t.Error(i, e, c.State())
		}
	}
}

func TestUsable(t *testing.T) {
	c := active(t, 1000, 2)
	for date, want := range map[int]api.Errno{0: 0, 100: 0, 101: api.ErrCard, -1: api.ErrTime, api.MaxDate + 1: api.ErrTime} {
		if e := c.Usable(date); e != want {
			t.Error(date, e)
		}
	}
	c.Do(2)
	if e := c.Usable(-1); e != api.ErrCard || c.Use(5, 1) != api.ErrCard {
		t.Error(e)
	}
	if x, _ := card.New(number, 100, 1, 1); x.Usable(5) != api.ErrCard {
		t.Error("a card that is not active")
	}
}

func TestUses(t *testing.T) {
	c := active(t, 1000, 2)
	used := func(date int, amount int64, count int) {
		t.Helper()
		if a, n := c.Used(date); a != amount || n != count {
			t.Error(a, n)
		}
	}
	used(0, 0, 0)
	for i, x := range []struct{ got, want api.Errno }{
		{c.Undo(10, 0), api.ErrNone}, {c.Undo(-5, 0), api.ErrNone}, {c.Use(10, 1001), api.ErrLimit}, {c.Use(9, 0), 0}, {c.Use(10, 600), 0}, {c.Use(10, 401), api.ErrLimit}, {c.Use(10, 400), 0}, {c.Use(10, 0), api.ErrLimit},
		{c.Undo(10, 1001), api.ErrNone}, {c.Undo(10, -1), api.ErrRange}, {c.Undo(9, api.MaxAmount+1), api.ErrRange}, {c.Undo(9, 1), api.ErrTime}, {c.Undo(11, 0), api.ErrNone},
		{c.Undo(10, 400), 0},
	} {
		if x.got != x.want {
			t.Error(i, x.got)
		}
	}
	used(10, 600, 1)
	used(9, 0, 0)
	used(11, 0, 0)
	for i, x := range []struct{ got, want api.Errno }{
		{c.Use(11, 1000), 0}, {c.Use(10, 1), api.ErrTime}, {c.Undo(10, 1), api.ErrTime}, {c.Use(10, -1), api.ErrRange}, {c.Use(101, -1), api.ErrCard}, {c.Use(12, api.MaxAmount+1), api.ErrRange},
	} {
		if x.got != x.want {
			t.Error(i, x.got)
		}
	}
	used(11, 1000, 1)
	c.Do(4)
	if e := c.Undo(11, 1000); e != api.OK || c.Undo(11, 0) != api.ErrNone || c.Undo(10, 0) != api.ErrTime {
		t.Error(e)
	}
	used(11, 0, 0)
	zero := active(t, 0, 0)
	if zero.Use(1, 0) != api.ErrLimit {
		t.Error("a limit of 0 permits no use")
	}
	zero = active(t, 0, 1)
	if zero.Use(1, 1) != api.ErrLimit || zero.Use(1, 0) != api.OK {
		t.Error("a limit of 0 permits no amount")
	}
	if zero.Undo(math.MinInt, 0) != api.ErrTime || zero.Undo(math.MaxInt, 0) != api.ErrNone {
		t.Error("dates that are none")
	}
}

func TestNone(t *testing.T) {
	var c *card.Card
	if c.Do(1) != api.ErrNone || c.Usable(1) != api.ErrNone || c.Use(1, 1) != api.ErrNone || c.Undo(1, 1) != api.ErrNone || c.State() != 0 || c.Number() != "" || c.Expiry() != 0 {
		t.Error("nil card")
	}
	if a, n := c.Used(0); a != 0 || n != 0 {
		t.Error(a, n)
	}
}
