package auth_test

import (
	"math"
	"testing"

	"cardnet/api"
	"cardnet/auth"
)

func thousand(t *testing.T) api.Auth {
	a, e := auth.New("a", "EUR", 1000, 50, 90)
	if e != api.OK || a != (api.Auth{Id: "a", Currency: "EUR", Approved: 1000, State: api.AuthOpen, At: 50, Until: 90}) {
		t.Fatal(a, e)
	}
	return a
}

func TestNew(t *testing.T) {
	for i, c := range []struct {
		id, currency string
		amount       int64
		at, until    int
		want         api.Errno
	}{
		{"a-1", "EUR", api.MaxAmount, 0, api.MaxTime, 0}, {"a b", "", 0, 0, 0, api.ErrName}, {"a", "eur", 0, 0, 0, api.ErrCurrency}, {"a", "EUR", 0, -1, 0, api.ErrRange}, {"a", "EUR", api.MaxAmount + 1, 0, 1, api.ErrRange},
		{"a", "EUR", 1, -1, 1, api.ErrTime}, {"a", "EUR", 1, 5, 5, api.ErrTime}, {"a", "EUR", 1, 5, api.MaxTime + 1, api.ErrTime}, {"a", "EUR", 1, api.MaxTime, api.MaxTime + 1, api.ErrTime}, {"a", "EUR", 1, math.MaxInt, math.MinInt, api.ErrTime},
	} {
		if a, e := auth.New(c.id, c.currency, c.amount, c.at, c.until); e != c.want || e != api.OK && a != (api.Auth{}) {
			t.Error(i, a, e)
		}
	}
}

func TestCheck(t *testing.T) {
	for i, c := range []struct {
		change func(a *api.Auth)
		want   api.Errno
	}{
		{func(a *api.Auth) {}, 0}, {func(a *api.Auth) { a.Reversed = -1 }, api.ErrRange}, {func(a *api.Auth) { a.Cleared = api.MaxAmount + 1 }, api.ErrRange}, {func(a *api.Auth) { a.Expired = -1 }, api.ErrRange}, {func(a *api.Auth) { a.Reversed, a.Cleared, a.Expired = 500, 400, 101 }, api.ErrBalance},
		{func(a *api.Auth) { a.Reversed, a.Until = 1001, 0 }, api.ErrBalance}, {func(a *api.Auth) { a.Until, a.Parts = 50, 9 }, api.ErrTime}, {func(a *api.Auth) { a.Parts, a.State = 1, 9 }, api.ErrRange}, {func(a *api.Auth) { a.Cleared = 5 }, api.ErrRange}, {func(a *api.Auth) { a.Cleared, a.Parts = 5, 6 }, api.ErrRange},
		{func(a *api.Auth) { a.Cleared, a.Parts = 50, 9 }, api.ErrRange}, {func(a *api.Auth) { a.Parts = -1 }, api.ErrRange}, {func(a *api.Auth) { a.Cleared, a.Parts = 5, 5 }, 0}, {func(a *api.Auth) { a.State = api.AuthCleared }, api.ErrState}, {func(a *api.Auth) { a.State = 0 }, api.ErrState},
		{func(a *api.Auth) { a.Expired = 1 }, api.ErrState}, {func(a *api.Auth) { a.Expired, a.State = 1000, api.AuthExpired }, 0}, {func(a *api.Auth) { a.Expired = 1000 }, api.ErrState}, {func(a *api.Auth) { a.Cleared, a.Parts, a.Reversed, a.State = 1, 1, 999, api.AuthCleared }, 0},
		{func(a *api.Auth) { a.Reversed, a.State = 1000, api.AuthReversed }, 0}, {func(a *api.Auth) { a.Reversed, a.State = 1000, api.AuthCleared }, api.ErrState}, {func(a *api.Auth) { a.Expired, a.Cleared, a.Parts, a.State = 1, 999, 1, api.AuthExpired }, 0},
	} {
		a := thousand(t)
		c.change(&a)
		if e := auth.Check(a); e != c.want {
			t.Error(i, e)
		}
		s := auth.Encode(a)
		if (s == "") != (c.want != api.OK) || c.want != api.OK && auth.Open(a) != 0 {
			t.Error(i, s, auth.Open(a))
		}
		if x, e := auth.Decode(s); c.want == api.OK && (x != a || e != api.OK) {
			t.Error(i, x, e)
		}
		if c.want == api.OK {
			continue
		}
		_, e1 := auth.Raise(a, 0, 0)
		_, _, e2 := auth.Reverse(a, -1)
		_, _, _, e3 := auth.Clear(a, 0, false)
		_, _, e4 := auth.Expire(a, 0)
		if e1 != c.want || e2 != c.want || e3 != c.want || e4 != c.want {
			t.Error(i, e1, e2, e3, e4)
		}
	}
}

func TestRaise(t *testing.T) {
	a := thousand(t)
	if x, e := auth.Raise(a, 5, 91); x.Approved != 1005 || x.Until != 91 || auth.Check(x) != api.OK || e != api.OK {
		t.Error(x, e)
	}
	for i, c := range []struct {
		amount int64
		until  int
		want   api.Errno
	}{{0, 0, api.ErrRange}, {api.MaxAmount, 0, api.ErrRange}, {math.MaxInt64, 90, api.ErrRange}, {1, 89, api.ErrTime}, {1, api.MaxTime + 1, api.ErrTime}, {api.MaxAmount - 1000, 90, 0}, {api.MaxAmount - 999, 90, api.ErrRange}} {
		if x, e := auth.Raise(a, c.amount, c.until); e != c.want || e != api.OK && x != (api.Auth{}) {
			t.Error(i, x, e)
		}
	}
}

func TestReverse(t *testing.T) {
	a := thousand(t)
	x, n, e := auth.Reverse(a, 400)
	if n != 400 || x.Reversed != 400 || x.State != api.AuthOpen || auth.Open(x) != 600 || e != api.OK {
		t.Error(x, n, e)
	}
	for _, amount := range []int64{-1, 601} {
		if y, n, e := auth.Reverse(x, amount); y != (api.Auth{}) || n != 0 || e != api.ErrRange {
			t.Error(y, n, e)
		}
	}
	x, n, e = auth.Reverse(x, 0)
	if n != 600 || x.State != api.AuthReversed || auth.Open(x) != 0 || auth.Check(x) != api.OK || e != api.OK {
		t.Error(x, n, e)
	}
	_, e1 := auth.Raise(x, 1, 90)
	_, _, e2 := auth.Reverse(x, -1)
	_, _, _, e3 := auth.Clear(x, 0, false)
	_, _, e4 := auth.Expire(x, 0)
	if e1 != api.ErrState || e2 != e1 || e3 != e1 || e4 != e1 {
		t.Error(e1, e2, e3, e4)
	}
}

func TestClear(t *testing.T) {
	clear := func(a api.Auth, amount int64, final bool, used, released int64, state, parts int) api.Auth {
		t.Helper()
		x, u, r, e := auth.Clear(a, amount, final)
		if u != used || r != released || x.State != state || x.Parts != parts || auth.Check(x) != api.OK || e != api.OK || auth.Open(a)-auth.Open(x) != u+r {
			t.Error(x, u, r, e)
		}
		return x
	}
	a := thousand(t)
	x := clear(a, 400, false, 400, 0, api.AuthOpen, 1)
	clear(x, 700, true, 600, 0, api.AuthCleared, 2)
	clear(x, 700, false, 600, 0, api.AuthCleared, 2)
	y := clear(a, 300, true, 300, 700, api.AuthCleared, 1)
	if y.Reversed != 700 {
		t.Error(y)
	}
	for _, amount := range []int64{0, -1, api.MaxAmount + 1} {
		if x, u, r, e := auth.Clear(a, amount, true); x != (api.Auth{}) || u != 0 || r != 0 || e != api.ErrRange {
			t.Error(x, u, r, e)
		}
	}
	for i := range 8 {
		a = clear(a, 1, false, 1, 0, api.AuthOpen, i+1)
	}
	if x, u, r, e := auth.Clear(a, 1, true); x != (api.Auth{}) || u != 0 || r != 0 || e != api.ErrLimit {
		t.Error(x, u, r, e)
	}
}

func TestExpire(t *testing.T) {
	a := thousand(t)
	a, _, _, _ = auth.Clear(a, 400, false)
	if x, n, e := auth.Expire(a, 89); x != (api.Auth{}) || n != 0 || e != api.ErrTime {
		t.Error(x, n, e)
	}
	if x, n, e := auth.Expire(a, 90); n != 600 || x.State != api.AuthExpired || x.Expired != 600 || auth.Check(x) != api.OK || e != api.OK {
		t.Error(x, n, e)
	}
}

func TestText(t *testing.T) {
	for n, want := range map[int]string{1: "open", 2: "cleared", 3: "reversed", 4: "expired", 0: "", 5: "", -1: ""} {
		if auth.Name(n) != want {
			t.Error(n, auth.Name(n))
		}
	}
	const text = "000001000007/EUR/1000/0/400/0/50/90/1"
	a, e := auth.Decode(text)
	if a != (api.Auth{Id: "000001000007", Currency: "EUR", Approved: 1000, Cleared: 400, State: api.AuthOpen, At: 50, Until: 90, Parts: 1}) || e != api.OK || auth.Encode(a) != text {
		t.Error(a, e)
	}
	for s, want := range map[string]api.Errno{
		"": api.ErrFormat, "a/EUR/1000/0/0/0/50/90": api.ErrFormat, "a/EUR/1000/0/0/0/50/90/0/": api.ErrFormat, "a/EUR/01000/0/0/0/50/90/0": api.ErrFormat, "a/EUR/1000/0/0/0/50/90/-0": api.ErrFormat, "a b/EUR/1000/0/0/0/50/90/": api.ErrFormat,
		"/eur/1000/0/0/0/50/90/0": api.ErrName, "a/eur/0/0/0/0/50/90/0": api.ErrCurrency, "a/EUR/0/0/0/0/50/90/0": api.ErrRange, "a/EUR/1/-1/0/0/50/90/0": api.ErrRange, "a/EUR/1/2/0/0/50/90/0": api.ErrBalance, "a/EUR/1/1/0/0/50/50/0": api.ErrTime, "a/EUR/1/1/0/0/50/51/1": api.ErrRange,
		"a/EUR/2/0/0/1/50/51/0": api.ErrState, "a/EUR/9223372036854775807/-9223372036854775808/0/0/50/51/0": api.ErrRange,
	} {
		if a, e := auth.Decode(s); a != (api.Auth{}) || e != want {
			t.Error(s, a, e)
		}
	}
}

func TestBounds(t *testing.T) {
	a := thousand(t)
	if x, e := auth.Raise(a, 1, api.MaxTime); x.Until != api.MaxTime || e != api.OK {
		t.Error(x, e)
	}
	if x, n, e := auth.Reverse(a, 1000); n != 1000 || x.State != api.AuthReversed || e != api.OK {
		t.Error(x, n, e)
	}
	if x, used, _, e := auth.Clear(a, api.MaxAmount, false); used != 1000 || x.State != api.AuthCleared || e != api.OK {
		t.Error(x, used, e)
	}
	if x, n, e := auth.Expire(a, math.MaxInt); n != 1000 || x.State != api.AuthExpired || e != api.OK {
		t.Error(x, n, e)
	}
	if x, e := auth.New("a", "EUR", api.MaxAmount, api.MaxTime-1, api.MaxTime); auth.Open(x) != api.MaxAmount || e != api.OK {
		t.Error(x, e)
	}
}
