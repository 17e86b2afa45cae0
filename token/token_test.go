package token_test

import (
	"math"
	"slices"
	"testing"

	"cardnet/api"
	"cardnet/pan"
	"cardnet/token"
)

const card = "4000000000000077"

var domain = api.Domain{Requestor: "wallet", Merchant: "m-1", Until: 50}

func vault(t *testing.T) *token.Vault {
	v, e := token.New("48", 16)
	if e != api.OK {
		t.Fatal(e)
	}
	return v
}

func TestNew(t *testing.T) {
	for i, c := range []struct {
		prefix string
		length int
	}{{"", 16}, {"4x", 16}, {"48", 11}, {"48", 20}, {"12345678901", 16}} {
		if v, e := token.New(c.prefix, c.length); v != nil || e != api.ErrRange {
			t.Error(i, v, e)
		}
	}
	v := vault(t)
	first, _ := pan.Make("48", 0, 16)
	for s, want := range map[string]bool{first: true, card: false, first[:15]: false, first[:15] + "0": first[15] == '0', "": false} {
		if v.Is(s) != want {
			t.Error(s)
		}
	}
	if n, _ := pan.Make("48", 0, 17); v.Is(n) {
		t.Error(n)
	}
}

func TestProvision(t *testing.T) {
	v := vault(t)
	first, _ := pan.Make("48", 0, 16)
	second, _ := pan.Make("48", 1, 16)
	for i, c := range []struct {
		number string
		d      api.Domain
		at     int
		want   api.Errno
	}{
		{"4000000000000078", api.Domain{}, -1, api.ErrChecksum}, {first, api.Domain{}, -1, api.ErrRange}, {card, api.Domain{Requestor: "a-b"}, -1, api.ErrName}, {card, api.Domain{}, 0, api.ErrName},
		{card, api.Domain{Requestor: "a", Merchant: "m 1"}, 0, api.ErrName}, {card, domain, -1, api.ErrTime}, {card, domain, api.MaxTime + 1, api.ErrTime}, {card, domain, 50, api.ErrTime},
		{card, api.Domain{Requestor: "a", Until: -1}, 0, api.ErrTime}, {card, api.Domain{Requestor: "a", Until: api.MaxTime + 1}, 0, api.ErrTime},
	} {
		if s, e := v.Provision(c.number, c.d, c.at); s != "" || e != c.want {
			t.Error(i, s, e)
		}
	}
	for i, want := range []string{first, second} {
		if s, e := v.Provision(card, domain, i); s != want || e != api.OK {
			t.Error(s, e)
		}
	}
	if x, ok := v.Get(second); !ok || x != (api.Token{Token: second, Pan: card, Domain: domain, State: api.TokenActive, Created: 1}) {
		t.Error(x, ok)
	}
	if x, ok := v.Get(card); ok || x != (api.Token{}) {
		t.Error(x, ok)
	}
	v.Delete(first)
	for i := 2; i < 64; i++ {
		if _, e := v.Provision(card, api.Domain{Requestor: "w", Until: api.MaxTime}, 0); e != api.OK {
			t.Fatal(i, e)
		}
	}
	if s, e := v.Provision(card, domain, 0); s != "" || e != api.ErrFull {
		t.Error(s, e)
	}
	if l := v.Of(card); len(l) != 63 || l[0] != second {
		t.Error(l)
	}
	small, _ := token.New("1234567890", 12)
	for i := range 11 {
		if s, e := small.Provision(card, domain, 0); (e == api.OK) != (i < 10) || i == 10 && (s != "" || e != api.ErrFull) {
			t.Error(i, s, e)
		}
	}
}

func TestResolve(t *testing.T) {
	v := vault(t)
	x, _ := v.Provision(card, domain, 5)
	free, _ := v.Provision(card, api.Domain{Requestor: "wallet"}, 5)
	for i, c := range []struct {
		token, requestor, merchant string
		at                         int
		want                       api.Errno
	}{
		{x, "wallet", "m-1", 49, 0}, {x, "wallet", "m-1", 0, 0}, {x, "wallet", "m-2", 50, api.ErrDomain}, {x, "wallet", "", 0, api.ErrDomain}, {x, "other", "m-1", 50, api.ErrDomain}, {x, "wallet", "m-1", 50, api.ErrTime},
		{x, "wallet", "m-1", -1, api.ErrTime}, {free, "wallet", "anything", api.MaxTime, 0}, {free, "wallet", "", api.MaxTime + 1, api.ErrTime}, {free, "", "", 0, api.ErrDomain}, {card, "wallet", "m-1", 0, api.ErrNone}, {"", "wallet", "m-1", 0, api.ErrNone},
	} {
		s, e := v.Resolve(c.token, c.requestor, c.merchant, c.at)
		if e != c.want || e == api.OK && s != card || e != api.OK && s != "" {
			t.Error(i, s, e)
		}
	}
}

func TestStates(t *testing.T) {
	v := vault(t)
	x, _ := v.Provision(card, domain, 5)
	const other = "4000000000000002"
	resolved := func() api.Errno { _, e := v.Resolve(x, "wallet", "m-1", math.MaxInt); return e }
	for i, c := range []struct {
		got   api.Errno
		want  api.Errno
		state int
	}{
		{v.Resume(x), api.ErrState, 1}, {v.Suspend(card), api.ErrNone, 1}, {v.Resume(card), api.ErrNone, 1}, {v.Delete(card), api.ErrNone, 1}, {v.Replace(card, "x"), api.ErrNone, 1},
		{v.Replace(x, "x"), api.ErrShort, 1}, {v.Replace(x, x), api.ErrRange, 1},
	} {
		if s, _ := v.Get(x); c.got != c.want || s.State != c.state {
			t.Error(i, c.got, s)
		}
	}
	if v.Suspend(x) != api.OK || v.Suspend(x) != api.ErrState || resolved() != api.ErrState || v.Replace(x, other) != api.OK {
		t.Error("suspended")
	}
	if v.Resume(x) != api.OK || resolved() != api.ErrTime || !slices.Equal(v.Of(other), []string{x}) || len(v.Of(card)) != 0 {
		t.Error("resumed")
	}
	v.Suspend(x)
	if v.Delete(x) != api.OK || v.Delete(x) != api.ErrState || v.Suspend(x) != api.ErrState || v.Resume(x) != api.ErrState || v.Replace(x, "x") != api.ErrState || resolved() != api.ErrState {
		t.Error("deleted")
	}
	if s, ok := v.Get(x); !ok || s.State != api.TokenDeleted || s.Pan != other || len(v.Of(other)) != 0 {
		t.Error(s, ok)
	}
}

func TestNone(t *testing.T) {
	var v *token.Vault
	if s, e := v.Resolve("x", "", "", 0); s != "" || e != api.ErrNone || v.Suspend("x") != e || v.Resume("x") != e || v.Delete("x") != e || v.Replace("x", "") != e || v.Is(card) || len(v.Of(card)) != 0 {
		t.Error(s, e)
	}
	if s, e := v.Provision(card, domain, 0); s != "" || e != api.ErrNone {
		t.Error(s, e)
	}
	new(token.Vault).Provision(card, domain, 0)
}
