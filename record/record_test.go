package record_test

import (
	"strings"
	"testing"

	"cardnet/api"
	"cardnet/record"
)

func sample() api.Record {
	return api.Record{Kind: api.RcPresent, Id: "000001000007-1", Auth: "000001000007", Acquirer: "shopbank", Issuer: "homebank", Merchant: "SHOP1", Card: "4000000000000077", Amount: api.Money{Amount: 1000, Currency: "EUR"}, Date: 12, Category: 5411, Final: true}
}

const text = "1|000001000007-1|000001000007|shopbank|homebank|SHOP1|4000000000000077|1000|EUR|12|5411|1"

func TestCheck(t *testing.T) {
	for i, c := range []struct {
		change func(r *api.Record)
		want   api.Errno
	}{
		{func(r *api.Record) {}, 0}, {func(r *api.Record) { r.Kind, r.Id = 0, "" }, api.ErrRange}, {func(r *api.Record) { r.Kind = 5 }, api.ErrRange}, {func(r *api.Record) { r.Id, r.Card = "a b", "" }, api.ErrName}, {func(r *api.Record) { r.Auth = "" }, 0}, {func(r *api.Record) { r.Auth = "a b" }, api.ErrName},
		{func(r *api.Record) { r.Acquirer = "a-b" }, api.ErrName}, {func(r *api.Record) { r.Issuer = "" }, api.ErrName}, {func(r *api.Record) { r.Merchant = "" }, api.ErrName}, {func(r *api.Record) { r.Merchant = "m-1" }, 0}, {func(r *api.Record) { r.Card, r.Amount.Currency = "4000000000000078", "" }, api.ErrCard},
		{func(r *api.Record) { r.Amount.Currency, r.Category = "eur", -1 }, api.ErrCurrency}, {func(r *api.Record) { r.Amount.Amount = api.MaxTotal + 1 }, api.ErrRange}, {func(r *api.Record) { r.Amount.Amount = 0 }, api.ErrRange}, {func(r *api.Record) { r.Amount.Amount, r.Date = api.MaxAmount+1, -1 }, api.ErrRange},
		{func(r *api.Record) { r.Category = -1 }, api.ErrRange}, {func(r *api.Record) { r.Category = 10000 }, api.ErrRange}, {func(r *api.Record) { r.Date = -1 }, api.ErrTime}, {func(r *api.Record) { r.Date = api.MaxDate + 1 }, api.ErrTime}, {func(r *api.Record) { r.Category, r.Final = 0, false }, 0}, {func(r *api.Record) { r.Category, r.Amount.Amount, r.Date = 9999, 1, api.MaxDate }, 0}, {func(r *api.Record) { r.Amount.Amount, r.Date = api.MaxAmount, 0 }, 0},
	} {
		r := sample()
		c.change(&r)
		s, e := record.Encode(r)
		if record.Check(r) != c.want || e != c.want || (s == "") != (e != api.OK) || e != api.OK && record.Debit(r) != 0 {
			t.Error(i, record.Check(r), s, e, record.Debit(r))
		}
		if x, e := record.Decode(s); c.want == api.OK && (x != r || e != api.OK) {
			t.Error(i, x, e)
		}
	}
}

func TestDecode(t *testing.T) {
	if s, e := record.Encode(sample()); s != text || e != api.OK {
		t.Error(s, e)
	}
	for _, c := range []struct {
		old, new string
		want     api.Errno
	}{
		{"|1000|", "|01000|", api.ErrFormat}, {"|1000|", "|0|", api.ErrRange}, {"EUR", "eur", api.ErrCurrency}, {"1|0", "5|0", api.ErrRange}, {"1|0", "+1|0", api.ErrFormat}, {"|12|", "|x|", api.ErrFormat}, {"|12|", "|-1|", api.ErrTime}, {"|5411|", "|-0|", api.ErrFormat}, {"|5411|", "|10000|", api.ErrRange},
		{"5411|1", "5411|2", api.ErrFormat}, {"5411|1", "5411|", api.ErrFormat}, {"5411|1", "5411", api.ErrFormat}, {"5411|1", "5411|1|", api.ErrFormat}, {"77|", "78|", api.ErrCard}, {"SHOP1", "SHOP 1", api.ErrName}, {"|1000|", "|-1000|", api.ErrRange}, {"|1000|", "|99999999999999999999|", api.ErrFormat},
	} {
		s := strings.Replace(text, c.old, c.new, 1)
		if r, e := record.Decode(s); r != (api.Record{}) || e != c.want {
			t.Error(s, r, e)
		}
	}
	if _, e := record.Decode(""); e != api.ErrFormat {
		t.Error(e)
	}
}

func TestDebitNameLess(t *testing.T) {
	for kind, want := range map[int]int64{1: 1000, 2: -1000, 3: -1000, 4: 1000} {
		r := sample()
		if r.Kind = kind; record.Debit(r) != want {
			t.Error(kind, record.Debit(r))
		}
	}
	for kind, want := range map[int]string{0: "", 1: "presentment", 2: "refund", 3: "chargeback", 4: "representment", 5: ""} {
		if record.Name(kind) != want {
			t.Error(kind, record.Name(kind))
		}
	}
	rec := func(date int, acquirer, id string) api.Record {
		return api.Record{Date: date, Acquirer: acquirer, Id: id}
	}
	l := []api.Record{rec(-1, "z", "z"), rec(1, "a", "b"), rec(1, "a", "c"), rec(1, "b", "a"), rec(2, "", "")}
	for i, a := range l {
		for j, b := range l {
			if record.Less(a, b) != (i < j) {
				t.Error(i, j)
			}
		}
	}
}
