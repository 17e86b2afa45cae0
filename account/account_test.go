package account_test

import (
	"math"
	"slices"
	"strconv"
	"testing"

	"cardnet/account"
	"cardnet/api"
)

func open(t *testing.T, balance, limit int64) *account.Account {
	a, e := account.New("EUR", balance, limit)
	if e != api.OK {
		t.Fatal(e)
	}
	return a
}

// state checks the numbers of an account, and the sum of its holds.
func state(t *testing.T, a *account.Account, balance, held, available int64) {
	t.Helper()
	var sum int64
	for _, id := range a.Holds() {
		n, _ := a.Open(id)
		sum += n
	}
	if a.Balance() != balance || a.Held() != held || a.Available() != available || sum != held {
		t.Error(a.Balance(), a.Held(), a.Available(), sum)
	}
}

func TestNew(t *testing.T) {
	for i, c := range []struct {
		currency       string
		balance, limit int64
		want           api.Errno
	}{
		{"EUR", api.MaxAmount, api.MaxAmount, 0}, {"EUR", -api.MaxAmount, 0, 0}, {"eur", api.MaxAmount + 1, 0, api.ErrCurrency}, {"", 0, 0, api.ErrCurrency},
		{"EUR", api.MaxAmount + 1, 0, api.ErrRange}, {"EUR", -api.MaxAmount - 1, 0, api.ErrRange}, {"EUR", 0, -1, api.ErrRange}, {"EUR", 0, api.MaxAmount + 1, api.ErrRange}, {"EUR", math.MinInt64, 0, api.ErrRange},
	} {
		if a, e := account.New(c.currency, c.balance, c.limit); e != c.want || (a == nil) != (e != api.OK) {
			t.Error(i, a, e)
		}
	}
}

func TestExample(t *testing.T) {
	a := open(t, 1000, 500)
	if a.Hold("a", 1200) != api.OK || a.Hold("b", 400) != api.ErrFunds {
		t.Error("holds")
	}
	if n, e := a.HoldUpTo("b", 400, 100); n != 300 || e != api.OK {
		t.Error(n, e)
	}
	state(t, a, 1000, 1500, 0)
	if !slices.Equal(a.Holds(), []string{"a", "b"}) {
		t.Error(a.Holds())
	}
	if e := a.Capture("a", 1200, 1250); e != api.OK {
		t.Error(e)
	}
	state(t, a, -250, 300, -50)
	if e := a.Force("b", 700); e != api.OK {
		t.Error(e)
	}
	state(t, a, -250, 1000, -750)
	if e := a.Release("b", 1000); e != api.OK {
		t.Error(e)
	}
	state(t, a, -250, 0, 250)
	if n, ok := a.Open("b"); n != 0 || ok || len(a.Holds()) != 0 {
		t.Error(n, ok)
	}
}

func TestErrors(t *testing.T) {
	a := open(t, 1000, 0)
	a.Hold("h", 400)
	upTo := func(id string, amount, least int64) api.Errno {
		n, e := a.HoldUpTo(id, amount, least)
		if n != 0 {
			t.Error(n)
		}
		return e
	}
	for i, c := range []struct{ got, want api.Errno }{
		{a.Hold("-", 0), api.ErrRange}, {a.Hold("", api.MaxAmount+1), api.ErrRange}, {a.Hold("", 1), api.ErrName}, {a.Hold("h", 9999), api.ErrExists}, {a.Hold("x", 601), api.ErrFunds},
		{upTo("", 5, 0), api.ErrRange}, {upTo("", 5, 6), api.ErrRange}, {upTo("", 0, 0), api.ErrRange}, {upTo("a b", 5, 5), api.ErrName}, {upTo("h", 5, 5), api.ErrExists}, {upTo("x", 700, 601), api.ErrFunds},
		{a.Force("", 0), api.ErrRange}, {a.Force("", 1), api.ErrName}, {a.Force("h", api.MaxAmount), api.ErrRange}, {a.Force("x", api.MaxAmount+1), api.ErrRange},
		{a.Raise("x", 0), api.ErrRange}, {a.Raise("x", 1), api.ErrNone}, {a.Raise("h", api.MaxAmount), api.ErrRange}, {a.Raise("h", 601), api.ErrFunds},
		{a.Release("x", 0), api.ErrNone}, {a.Release("h", 0), api.ErrRange}, {a.Release("h", 401), api.ErrRange},
		{a.Capture("x", -1, 0), api.ErrNone}, {a.Capture("h", -1, 0), api.ErrRange}, {a.Capture("h", 401, 0), api.ErrRange}, {a.Capture("h", 0, -1), api.ErrRange}, {a.Capture("h", 0, api.MaxAmount+1), api.ErrRange},
		{a.Post(api.MaxAmount + 1), api.ErrRange}, {a.Post(-api.MaxAmount - 1), api.ErrRange}, {a.Post(math.MinInt64), api.ErrRange},
	} {
		if c.got != c.want {
			t.Error(i, c.got, c.want)
		}
	}
	state(t, a, 1000, 400, 600)
	if a.Raise("h", 600) != api.OK {
		t.Error("Raise of what is available")
	}
	state(t, a, 1000, 1000, 0)
	if a.Capture("h", 0, 5) != api.OK || a.Capture("h", 1000, 0) != api.OK {
		t.Error("Capture")
	}
	state(t, a, 995, 0, 995)
}

func TestRoom(t *testing.T) {
	a := open(t, 1000, 0)
	for i := range 64 {
		if e := a.Hold("h"+strconv.Itoa(i), 1); e != api.OK {
			t.Fatal(i, e)
		}
	}
	if _, e := a.HoldUpTo("x", 9, 1); a.Hold("x", 9999) != api.ErrFull || e != api.ErrFull || a.Force("x", 1) != api.ErrFull || a.Force("h0", 1) != api.OK || a.Hold("h0", 1) != api.ErrExists {
		t.Error("room")
	}
}

func TestBounds(t *testing.T) {
	a := open(t, 0, 0)
	a.Force("h", 1)
	n := int64(0)
	for a.Capture("h", 0, api.MaxAmount) == api.OK {
		n++
	}
	if n != api.MaxTotal/api.MaxAmount || a.Balance() != -n*api.MaxAmount || a.Post(-api.MaxAmount) != api.ErrRange {
		t.Error(n, a.Balance())
	}
	for a.Post(api.MaxAmount) == api.OK {
		n--
	}
	if a.Balance() != n*-api.MaxAmount || a.Balance() <= api.MaxTotal-api.MaxAmount {
		t.Error(n, a.Balance())
	}
}

func TestNone(t *testing.T) {
	var a *account.Account
	if n, e := a.HoldUpTo("x", 1, 1); n != 0 || e != api.ErrNone {
		t.Error(n, e)
	}
	for i, e := range []api.Errno{a.Hold("x", 1), a.Force("x", 1), a.Raise("x", 1), a.Release("x", 1), a.Capture("x", 1, 1), a.Post(1)} {
		if e != api.ErrNone {
			t.Error(i, e)
		}
	}
	if n, ok := a.Open("x"); n != 0 || ok || len(a.Holds()) != 0 {
		t.Error(n, ok)
	}
	state(t, a, 0, 0, 0)
	new(account.Account).Force("x", 1)
}

// TestExactBounds uses exactly what is permitted.
func TestExactBounds(t *testing.T) {
	a := open(t, 1000, 0)
	if n, e := a.HoldUpTo("h", 2000, 1000); n != 1000 || e != api.OK {
		t.Error(n, e)
	}
	if e := a.Release("h", 1); e != api.OK {
		t.Error(e)
	}
	if e := a.Force("h", api.MaxAmount-999); e != api.OK {
		t.Error(e)
	}
	if n, _ := a.Open("h"); n != api.MaxAmount || a.Force("h", 1) != api.ErrRange {
		t.Error(n)
	}
	rich := open(t, api.MaxAmount, api.MaxAmount)
	rich.Hold("r", 1)
	if rich.Raise("r", api.MaxAmount-1) != api.OK || rich.Raise("r", 1) != api.ErrRange {
		t.Error("Raise to the greatest hold")
	}
	for _, sign := range []int64{1, -1} {
		b := open(t, 0, 0)
		for range api.MaxTotal / api.MaxAmount {
			b.Post(sign * api.MaxAmount)
		}
		rest := api.MaxTotal - sign*b.Balance()
		if b.Post(sign*(rest+1)) != api.ErrRange || b.Post(sign*rest) != api.OK || b.Balance() != sign*api.MaxTotal || b.Post(sign) != api.ErrRange {
			t.Error(sign, b.Balance())
		}
		b.Force("c", 1)
		if e := b.Capture("c", 0, 1); sign < 0 && e != api.ErrRange || sign > 0 && e != api.OK {
			t.Error(sign, e)
		}
	}
	c := open(t, 0, 0)
	for range api.MaxTotal / api.MaxAmount {
		c.Post(-api.MaxAmount)
	}
	c.Force("c", 1)
	if rest := api.MaxTotal + c.Balance(); c.Capture("c", 1, rest) != api.OK || c.Balance() != -api.MaxTotal {
		t.Error(c.Balance())
	}
}
