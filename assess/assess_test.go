package assess_test

import (
	"math"
	"reflect"
	"testing"

	"cardnet/api"
	"cardnet/assess"
	"cardnet/feetext"
)

func rules(t *testing.T, s string) []api.FeeRule {
	l, e, at := feetext.Parse(s)
	if e != api.OK {
		t.Fatal(s, e, at)
	}
	return l
}

func tables(t *testing.T) assess.Tables {
	return assess.Tables{rules(t, "fee food when category = 5411: 0.5%; fee rest when 1 = 1: 1%;"), rules(t, "fee all when 1 = 1: 0% + 2;"), rules(t, "fee all when 1 = 1: 1.5% min 10;")}
}

func rec(kind int, amount int64, category int) api.Record {
	return api.Record{Kind: kind, Id: "p", Auth: "a", Acquirer: "shop", Issuer: "home", Merchant: "m", Card: "4000000000000077", Amount: api.Money{Amount: amount, Currency: "EUR"}, Date: 7, Category: category}
}

func TestFeatures(t *testing.T) {
	n := func(name string, n int64) api.Feature { return api.Feature{Name: name, Kind: api.TNumber, N: n} }
	s := func(name, s string) api.Feature { return api.Feature{Name: name, Kind: api.TText, Text: s} }
	want := []api.Feature{n("kind", 1), n("category", 5411), n("amount", 1000), n("date", 7), s("merchant", "m"), s("issuer", "home"), s("acquirer", "shop"), s("currency", "EUR"), {Name: "authorized", Kind: api.TBool, N: 1}}
	if l := assess.Features(rec(1, 1000, 5411)); !reflect.DeepEqual(l, want) {
		t.Error(l)
	}
	if l := assess.Features(api.Record{Kind: -5}); len(l) != 9 || l[0].N != -5 || l[8].N != 0 {
		t.Error(l)
	}
}

func TestCheck(t *testing.T) {
	ok := tables(t)
	bad := []api.FeeRule{{Name: "x"}}
	for i, c := range []struct {
		change func(x *assess.Tables)
		want   api.Errno
	}{
		{func(x *assess.Tables) {}, 0}, {func(x *assess.Tables) { x.Interchange, x.Scheme = x.Interchange[:1], bad }, api.ErrNone}, {func(x *assess.Tables) { x.Scheme, x.Merchant = bad, nil }, api.ErrFormat}, {func(x *assess.Tables) { x.Merchant = nil }, api.ErrNone}, {func(x *assess.Tables) { x.Merchant = rules(t, "fee a when none = 1: 1%; fee b when 1 = 1: 1%;") }, api.ErrNone},
		{func(x *assess.Tables) { x.Scheme = rules(t, "fee a when amount: 1%; fee b when 1 = 1: 1%;") }, api.ErrType}, {func(x *assess.Tables) { x.Merchant = rules(t, "fee a when authorized: 1%; fee b when 1 < 2: 1%;") }, 0},
	} {
		x := ok
		c.change(&x)
		if e := assess.Check(x); e != c.want {
			t.Error(i, e)
		}
		if y, e := assess.Assess(x, rec(1, 1000, 5411)); e != c.want || e != api.OK && y != (assess.Result{}) {
			t.Error(i, y, e)
		}
	}
}

func TestAssess(t *testing.T) {
	food, rest, all, shop := api.FeeLine{Rule: "food", Amount: 5, Why: "category=5411"}, api.FeeLine{Rule: "rest", Amount: 10}, api.FeeLine{Rule: "all", Amount: 2}, api.FeeLine{Rule: "all", Amount: 15}
	for i, c := range []struct {
		kind, category int
		want           assess.Result
	}{
		{api.RcPresent, 5411, assess.Result{food, all, shop, -1000, 5, 8, 985, 2}}, {api.RcRefund, 7995, assess.Result{rest, all, shop, 1000, -10, -7, -985, 2}}, {api.RcChargeback, 5411, assess.Result{food, all, shop, 1000, -5, -12, -985, 2}}, {api.RcRepresent, 7995, assess.Result{rest, all, shop, -1000, 10, 3, 985, 2}},
	} {
		x, e := assess.Assess(tables(t), rec(c.kind, 1000, c.category))
		if x != c.want || e != api.OK || !assess.Balanced(x) {
			t.Error(i, x, e)
		}
	}
	if x, e := assess.Assess(assess.Tables{}, rec(1, 0, 1)); x != (assess.Result{}) || e != api.ErrRange {
		t.Error(x, e)
	}
	if x, e := assess.Assess(assess.Tables{}, rec(1, 1, 1)); x != (assess.Result{}) || e != api.ErrNone {
		t.Error(x, e)
	}
}

func TestBalanced(t *testing.T) {
	for i, c := range []struct {
		x    assess.Result
		want bool
	}{
		{assess.Result{}, true}, {assess.Result{Cardholder: -3, Issuer: 1, Acquirer: 1, Shop: 1}, true}, {assess.Result{Cardholder: -3, Issuer: 1, Acquirer: 1, Shop: 1, Network: 1}, false}, {assess.Result{Cardholder: api.MaxTotal, Network: -api.MaxTotal}, true}, {assess.Result{Cardholder: api.MaxTotal + 1, Network: -api.MaxTotal - 1}, false},
		{assess.Result{Cardholder: math.MinInt64, Issuer: math.MinInt64}, false}, {assess.Result{Cardholder: api.MaxTotal + 1, Issuer: -api.MaxTotal, Shop: -1}, false}, {assess.Result{Cardholder: -api.MaxTotal - 1, Issuer: api.MaxTotal, Shop: 1}, false}, {assess.Result{Interchange: api.FeeLine{Amount: math.MaxInt64}}, true},
	} {
		if assess.Balanced(c.x) != c.want {
			t.Error(i)
		}
	}
}

func TestSum(t *testing.T) {
	line := func(n int64) api.FeeLine { return api.FeeLine{Rule: "sum", Amount: n} }
	if x, e := assess.Sum(nil); x != (assess.Result{Interchange: line(0), Scheme: line(0), Merchant: line(0)}) || e != api.OK {
		t.Error(x, e)
	}
	a := assess.Result{api.FeeLine{Rule: "a", Amount: 1, Why: "w"}, api.FeeLine{Amount: 2}, api.FeeLine{Amount: 3}, -4, 5, 6, 7, 8}
	if x, e := assess.Sum([]assess.Result{a, a}); x != (assess.Result{line(2), line(4), line(6), -8, 10, 12, 14, 16}) || e != api.OK {
		t.Error(x, e)
	}
	top := assess.Result{Shop: api.MaxTotal}
	for i, l := range [][]assess.Result{{top, {Shop: 1}, {Shop: -1}}, {{Network: api.MaxTotal + 1}}, {{Scheme: api.FeeLine{Amount: math.MinInt64}}}, {{Interchange: api.FeeLine{Amount: api.MaxTotal}}, {Interchange: api.FeeLine{Amount: 1}}}} {
		if x, e := assess.Sum(l); x != (assess.Result{}) || e != api.ErrRange {
			t.Error(i, x, e)
		}
	}
	if x, e := assess.Sum([]assess.Result{top, {Shop: -1}}); x.Shop != api.MaxTotal-1 || e != api.OK {
		t.Error(x, e)
	}
}

func TestExplain(t *testing.T) {
	x, _ := assess.Assess(tables(t), rec(api.RcPresent, 1000, 5411))
	if s := assess.Explain(x); s != "interchange food 5 because category=5411\nscheme all 2\nmerchant all 15\ncardholder -1000\nissuer 5\nacquirer 8\nshop 985\nnetwork 2\n" {
		t.Error(s)
	}
}
