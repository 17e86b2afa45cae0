package matching_test

import (
	"slices"
	"testing"

	"cardnet/api"
	"cardnet/auth"
	"cardnet/matching"
)

var tol = matching.Tolerance{1500, 20}

func thousand(id string) api.Auth {
	a, _ := auth.New(id, "EUR", 1000, 50, 90)
	return a
}

func rec(ref string, amount int64, final bool) api.Record {
	return api.Record{Kind: api.RcPresent, Id: "p", Auth: ref, Acquirer: "shop", Issuer: "home", Merchant: "m", Card: "4000000000000077", Amount: api.Money{Amount: amount, Currency: "EUR"}, Final: final}
}

func TestAllowed(t *testing.T) {
	for i, c := range []struct {
		approved int64
		t        matching.Tolerance
		want     int64
		e        api.Errno
	}{
		{1000, tol, 170, 0}, {0, tol, 20, 0}, {9, matching.Tolerance{1500, 0}, 1, 0}, {9, matching.Tolerance{}, 0, 0}, {9999, matching.Tolerance{1, 0}, 0, 0}, {10000, matching.Tolerance{1, 0}, 1, 0}, {api.MaxAmount, matching.Tolerance{10000, api.MaxAmount}, 2 * api.MaxAmount, 0}, {-1, tol, 0, api.ErrRange}, {api.MaxAmount + 1, tol, 0, api.ErrRange},
		{1, matching.Tolerance{-1, 0}, 0, api.ErrRange}, {1, matching.Tolerance{10001, 0}, 0, api.ErrRange}, {1, matching.Tolerance{0, -1}, 0, api.ErrRange}, {1, matching.Tolerance{0, api.MaxAmount + 1}, 0, api.ErrRange},
	} {
		if n, e := matching.Allowed(c.approved, c.t); n != c.want || e != c.e {
			t.Error(i, n, e)
		}
	}
}

func TestApply(t *testing.T) {
	a := thousand("a")
	part, e := matching.Apply(a, rec("a", 400, false), tol)
	if part.Used != 400 || part.Released != 0 || part.Excess != 0 || auth.Open(part.Auth) != 600 || e != api.OK {
		t.Error(part, e)
	}
	if _, e := matching.Apply(part.Auth, rec("a", 700, false), tol); e != api.ErrTolerance {
		t.Error(e)
	}
	for i, c := range []struct {
		a                      api.Auth
		amount                 int64
		final                  bool
		used, released, excess int64
		state                  int
	}{{part.Auth, 700, true, 600, 0, 100, api.AuthCleared}, {part.Auth, 770, true, 600, 0, 170, api.AuthCleared}, {a, 300, true, 300, 700, 0, api.AuthCleared}, {a, 1170, true, 1000, 0, 170, api.AuthCleared}, {a, 1000, false, 1000, 0, 0, api.AuthCleared}} {
		x, e := matching.Apply(c.a, rec("a", c.amount, c.final), tol)
		if x.Used != c.used || x.Released != c.released || x.Excess != c.excess || x.Auth.State != c.state || auth.Open(c.a)-auth.Open(x.Auth) != x.Used+x.Released || e != api.OK {
			t.Error(i, x, e)
		}
	}
	parts := a
	for range 8 {
		parts, _, _, _ = auth.Clear(parts, 1, false)
	}
	ended, _, _ := auth.Reverse(a, 0)
	with := func(change func(r *api.Record)) api.Record { r := rec("a", 5, false); change(&r); return r }
	for i, c := range []struct {
		a    api.Auth
		r    api.Record
		t    matching.Tolerance
		want api.Errno
	}{
		{api.Auth{}, with(func(r *api.Record) { r.Card, r.Kind = "", 2 }), matching.Tolerance{-1, 0}, api.ErrCard}, {api.Auth{}, with(func(r *api.Record) { r.Kind = 2 }), tol, api.ErrRange}, {api.Auth{}, rec("a", 5, false), matching.Tolerance{-1, 0}, api.ErrRange}, {api.Auth{}, rec("a", 5, false), tol, api.ErrName},
		{a, with(func(r *api.Record) { r.Auth, r.Amount.Currency = "b", "USD" }), tol, api.ErrMatch}, {ended, with(func(r *api.Record) { r.Amount.Currency = "USD" }), tol, api.ErrCurrency}, {ended, rec("a", 5, false), tol, api.ErrState}, {parts, rec("a", 5000, false), tol, api.ErrLimit}, {a, rec("a", 1171, true), tol, api.ErrTolerance}, {a, rec("a", 1001, false), tol, api.ErrTolerance},
		{a, rec("", 5, false), tol, api.ErrMatch},
	} {
		if x, e := matching.Apply(c.a, c.r, c.t); x != (matching.Outcome{}) || e != c.want {
			t.Error(i, x, e)
		}
	}
}

func TestMatch(t *testing.T) {
	ended, _, _ := auth.Reverse(thousand("c"), 0)
	l := []api.Auth{thousand("a"), ended, thousand("b"), thousand("c"), {}}
	for i, c := range []struct {
		r    api.Record
		want int
		e    api.Errno
	}{
		{rec("b", 5, false), 2, 0}, {rec("c", 5, false), 0, api.ErrState}, {rec("", 5, false), 0, api.ErrMatch}, {rec("x", 5, false), 0, api.ErrMatch}, {rec("b", 0, false), 0, api.ErrRange}, {rec("b", 1001, false), 0, api.ErrTolerance},
	} {
		if n, e := matching.Match(l, c.r, tol); n != c.want || e != c.e {
			t.Error(i, n, e)
		}
	}
	if n, e := matching.Match(l, rec("x", 5, false), matching.Tolerance{-1, 0}); n != 0 || e != api.ErrRange {
		t.Error(n, e)
	}
	refund := rec("x", 5, false)
	refund.Kind = api.RcRefund
	if n, e := matching.Match(nil, refund, tol); n != 0 || e != api.ErrRange {
		t.Error(n, e)
	}
}

func TestRun(t *testing.T) {
	l := []api.Auth{thousand("a"), thousand("b")}
	refund, bad := rec("", 5, false), rec("a", 5, false)
	refund.Kind, refund.Id, bad.Card, bad.Id = api.RcRefund, "r", "x", "bad"
	after, rejects := matching.Run(l, []api.Record{rec("a", 400, false), bad, refund, rec("a", 700, false), rec("a", 600, true), rec("a", 1, true), rec("x", 1, true)}, tol)
	want := []api.Reject{{Index: 1, Id: "bad", Code: api.ErrCard}, {Index: 3, Id: "p", Code: api.ErrTolerance}, {Index: 5, Id: "p", Code: api.ErrState}, {Index: 6, Id: "p", Code: api.ErrMatch}}
	if !slices.Equal(rejects, want) || after[0].State != api.AuthCleared || after[0].Parts != 2 || after[1] != l[1] || l[0] != thousand("a") {
		t.Error(after, rejects)
	}
	// With a tolerance that is not valid presentments are rejected, and refunds are not.
	if _, rejects := matching.Run(l, []api.Record{rec("a", 1, true), refund}, matching.Tolerance{-1, 0}); len(rejects) != 1 || rejects[0].Code != api.ErrRange {
		t.Error(rejects)
	}
	if ids := matching.Unmatched(append(after, api.Auth{Id: "x", Approved: 9, State: 1})); !slices.Equal(ids, []string{"b"}) {
		t.Error(ids)
	}
}
