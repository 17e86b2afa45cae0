package feerule_test

import (
	"testing"

	"cardnet/api"
	"cardnet/feerule"
	"cardnet/ruletext"
)

func cond(t *testing.T, s string) api.Expr {
	t.Helper()
	e, code, at := ruletext.ParseExpr(s)
	if code != api.OK {
		t.Fatal(s, code, at)
	}
	return e
}

func features(category int64) []api.Feature {
	return []api.Feature{{Name: "category", Kind: api.TNumber, N: category}, {Name: "amount", Kind: api.TNumber, N: 1000}, {Name: "shop", Kind: api.TText, Text: "a b"}, {Name: "auth", Kind: api.TBool, N: 1}}
}

func table(t *testing.T) []api.FeeRule {
	return []api.FeeRule{{Name: "food", When: cond(t, "category = 5411"), Bps: 100, Max: 500}, {Name: "rest", When: cond(t, "1 = 1"), Bps: 150, Fixed: 10}}
}

func TestCheck(t *testing.T) {
	with := func(change func(r *api.FeeRule)) []api.FeeRule {
		r := table(t)[0]
		change(&r)
		return []api.FeeRule{table(t)[1], r}
	}
	for i, c := range []struct {
		l    []api.FeeRule
		want api.Errno
	}{
		{nil, 0}, {table(t), 0}, {make([]api.FeeRule, 65), api.ErrLong}, {make([]api.FeeRule, 64), api.ErrName}, {with(func(r *api.FeeRule) { r.Name, r.Bps = "a-b", -1 }), api.ErrName}, {with(func(r *api.FeeRule) { r.Name, r.Bps = "rest", -1 }), api.ErrExists}, {with(func(r *api.FeeRule) { r.Bps, r.When = -1, api.Expr{} }), api.ErrRange},
		{with(func(r *api.FeeRule) { r.Bps = 10001 }), api.ErrRange}, {with(func(r *api.FeeRule) { r.Fixed = -1 }), api.ErrRange}, {with(func(r *api.FeeRule) { r.Fixed = api.MaxAmount + 1 }), api.ErrRange}, {with(func(r *api.FeeRule) { r.Min, r.Max = api.MaxAmount+1, 0 }), api.ErrRange}, {with(func(r *api.FeeRule) { r.Min = 501 }), api.ErrRange},
		{with(func(r *api.FeeRule) { r.Min = 500 }), 0}, {with(func(r *api.FeeRule) { r.Max = api.MaxAmount + 1 }), api.ErrRange}, {with(func(r *api.FeeRule) { r.Min, r.Max = 7, 0 }), 0}, {with(func(r *api.FeeRule) { r.When = api.Expr{} }), api.ErrFormat}, {with(func(r *api.FeeRule) { r.When = cond(t, "none = 1") }), api.ErrNone}, {with(func(r *api.FeeRule) { r.When = cond(t, "amount") }), api.ErrType},
		{with(func(r *api.FeeRule) { r.Min = -1 }), api.ErrRange},
	} {
		if e := feerule.Check(c.l, features(1)); e != c.want {
			t.Error(i, e)
		}
	}
}

func TestFee(t *testing.T) {
	for i, c := range []struct {
		r      api.FeeRule
		amount int64
		want   int64
		e      api.Errno
	}{
		{api.FeeRule{Bps: 100, Max: 500}, 1000, 10, 0}, {api.FeeRule{Bps: 1}, 4999, 0, 0}, {api.FeeRule{Bps: 1}, 5000, 1, 0}, {api.FeeRule{Bps: 100, Max: 500}, 100000, 500, 0}, {api.FeeRule{Bps: 100, Fixed: 3, Min: 20}, 1000, 20, 0}, {api.FeeRule{Bps: 100, Fixed: 11, Min: 20}, 1000, 21, 0},
		{api.FeeRule{Bps: 10000, Fixed: api.MaxAmount}, api.MaxAmount, 2 * api.MaxAmount, 0}, {api.FeeRule{}, 0, 0, 0}, {api.FeeRule{}, -1, 0, api.ErrRange}, {api.FeeRule{}, api.MaxAmount + 1, 0, api.ErrRange}, {api.FeeRule{Bps: -1}, 0, 0, api.ErrRange}, {api.FeeRule{Min: 5, Max: 4}, 0, 0, api.ErrRange}, {api.FeeRule{Min: 5, Max: 5}, 0, 5, 0},
	} {
		if n, e := feerule.Fee(c.r, c.amount); n != c.want || e != c.e {
			t.Error(i, n, e)
		}
	}
}

func TestApply(t *testing.T) {
	l := table(t)
	for i, c := range []struct {
		l        []api.FeeRule
		category int64
		amount   int64
		want     api.FeeLine
		e        api.Errno
	}{
		{l, 5411, 1000, api.FeeLine{Rule: "food", Amount: 10, Why: "category=5411"}, 0}, {l, 1, 1000, api.FeeLine{Rule: "rest", Amount: 25}, 0}, {l[:1], 1, 1000, api.FeeLine{}, api.ErrNone}, {nil, 1, -1, api.FeeLine{}, api.ErrNone}, {l, 1, -1, api.FeeLine{}, api.ErrRange},
		{[]api.FeeRule{{Name: "x", When: cond(t, "none = 1")}, {Name: "z", When: cond(t, "amount * 9000000000000000 < 1 or 1 = 1")}, {Name: "y", When: cond(t, "shop != \"\" and auth and -5 < category and amount = 1000"), Fixed: 3}}, -2, 7, api.FeeLine{Rule: "y", Amount: 3, Why: "amount=1000 auth=1 category=-2 shop=a b"}, 0},
		{[]api.FeeRule{{Name: "y", When: cond(t, "1 = 1 or count(none, 5) = 0")}}, 1, 1, api.FeeLine{}, api.ErrNone}, {[]api.FeeRule{{Name: "y", When: cond(t, "count(shop, 5) = 0")}}, 1, 1, api.FeeLine{Rule: "y", Why: "shop=a b"}, 0},
	} {
		if x, e := feerule.Apply(c.l, features(c.category), c.amount); x != c.want || e != c.e {
			t.Error(i, x, e)
		}
	}
	if i, e := feerule.Pick(l, features(1)); i != 1 || e != api.OK {
		t.Error(i, e)
	}
	if i, e := feerule.Pick(l[:1], features(1)); i != 0 || e != api.ErrNone {
		t.Error(i, e)
	}
}

func TestTotalPrune(t *testing.T) {
	l := table(t)
	if !feerule.Total(l) || feerule.Total(l[:1]) || feerule.Total(nil) {
		t.Error("Total")
	}
	names := func(l []api.FeeRule) string {
		s := ""
		for _, r := range l {
			s += r.Name + " "
		}
		return s
	}
	never := api.FeeRule{Name: "never", When: cond(t, "2 * 3 = 7 or not (1 < 2)")}
	always := api.FeeRule{Name: "always", When: cond(t, "2 < 3 and not (2 = 3)")}
	p := feerule.Prune([]api.FeeRule{never, l[0], never, always, l[1], l[0]})
	if names(p) != "food always " || names(feerule.Prune(p)) != "food always " || len(feerule.Prune(nil)) != 0 {
		t.Error(names(p))
	}
	p[0].When.Args[0].Name = "changed"
	if l[0].When.Args[0].Name != "category" {
		t.Error("shared memory")
	}
}
