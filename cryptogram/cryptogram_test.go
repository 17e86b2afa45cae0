package cryptogram_test

import (
	"math"
	"testing"

	"cardnet/api"
	"cardnet/cryptogram"
	"cardnet/keyed"
	"cardnet/pan"
)

const card = "4111111111111111"

var hundred = api.Money{Amount: 100, Currency: "EUR"}

func TestMake(t *testing.T) {
	if s, e := cryptogram.Make(7, card, 12, hundred, "n-1"); s != keyed.Text(keyed.Mac(keyed.Derive(7, card), "12/100/EUR/n-1")) || e != api.OK {
		t.Error(s, e)
	}
	if s, e := cryptogram.Make(7, card, 999999, api.Money{Amount: -5, Currency: "EUR"}, ""); s != keyed.Text(keyed.Mac(keyed.Derive(7, card), "999999/-5/EUR/")) || e != api.OK {
		t.Error(s, e)
	}
	for _, nonce := range []string{"!", "~", "!~345678"} {
		if s, e := cryptogram.Make(7, card, 1, hundred, nonce); s != keyed.Text(keyed.Mac(keyed.Derive(7, card), "1/100/EUR/"+nonce)) || e != api.OK {
			t.Error(nonce, s, e)
		}
	}
	for i, c := range []struct {
		token   string
		counter int
		m       api.Money
		nonce   string
		want    api.Errno
	}{
		{"411", 0, api.Money{}, " ", api.ErrCard}, {"4111111111111112", 1, hundred, "", api.ErrCard}, {card, 0, api.Money{}, " ", api.ErrRange}, {card, 1000000, hundred, "", api.ErrRange},
		{card, 1, api.Money{}, " ", api.ErrCurrency}, {card, 1, api.Money{Amount: api.MaxTotal + 1, Currency: "EUR"}, "", api.ErrRange}, {card, 1, hundred, " ", api.ErrFormat}, {card, 1, hundred, "123456789", api.ErrFormat}, {card, 1, hundred, "\x7f", api.ErrFormat},
	} {
		if s, e := cryptogram.Make(7, c.token, c.counter, c.m, c.nonce); s != "" || e != c.want {
			t.Error(i, s, e)
		}
		k, _ := cryptogram.New(7, 2)
		if e := k.Check(c.token, c.counter, c.m, c.nonce, ""); e != c.want {
			t.Error(i, e)
		}
	}
}

func TestCheck(t *testing.T) {
	for _, bad := range []int{-1, 64, math.MaxInt} {
		if c, e := cryptogram.New(1, bad); c != nil || e != api.ErrRange {
			t.Error(c, e)
		}
	}
	c, e := cryptogram.New(1, 2)
	if e != api.OK {
		t.Fatal(e)
	}
	pay := func(counter int) api.Errno {
		s, _ := cryptogram.Make(1, card, counter, hundred, "")
		return c.Check(card, counter, hundred, "", s)
	}
	if c.Used(card, 0) || c.Last(card) != 0 {
		t.Error("nothing was accepted")
	}
	for i, x := range []struct {
		counter, last int
		want          api.Errno
	}{
		{5, 5, 0}, {5, 5, api.ErrDuplicate}, {3, 5, 0}, {4, 5, 0}, {4, 5, api.ErrDuplicate}, {2, 5, api.ErrDuplicate}, {9, 9, 0}, {6, 9, api.ErrDuplicate}, {7, 9, 0}, {8, 9, 0}, {7, 9, api.ErrDuplicate}, {10, 10, 0}, {8, 10, api.ErrDuplicate}, {999999, 999999, 0}, {999998, 999999, 0}, {10, 999999, api.ErrDuplicate},
	} {
		if e := pay(x.counter); e != x.want || c.Last(card) != x.last || !c.Used(card, x.counter) {
			t.Error(i, e, c.Last(card))
		}
	}
	for n, want := range map[int]bool{math.MinInt: true, math.MaxInt: false, 0: true, 999997: false, 1000000: false} {
		if c.Used(card, n) != want || c.Used("x", n) {
			t.Error(n)
		}
	}
}

func TestBinding(t *testing.T) {
	c, _ := cryptogram.New(1, 63)
	const other = "4000000000000077"
	s, _ := cryptogram.Make(1, card, 10, hundred, "n")
	for i, e := range []api.Errno{
		c.Check(other, 10, hundred, "n", s), c.Check(card, 11, hundred, "n", s), c.Check(card, 10, api.Money{Amount: 101, Currency: "EUR"}, "n", s),
		c.Check(card, 10, api.Money{Amount: 100, Currency: "USD"}, "n", s), c.Check(card, 10, hundred, "m", s), c.Check(card, 10, hundred, "n", ""), c.Check(card, 10, hundred, "n", s+" "),
	} {
		if e != api.ErrMac || c.Last(card) != 0 {
			t.Error(i, e)
		}
	}
	if k, _ := cryptogram.New(2, 63); k.Check(card, 10, hundred, "n", s) != api.ErrMac {
		t.Error("another key")
	}
	if e := c.Check(card, 10, hundred, "n", s); e != api.OK {
		t.Error(e)
	}
	wide, _ := cryptogram.Make(1, card, 73, hundred, "")
	if c.Check(card, 73, hundred, "", wide) != api.OK || !c.Used(card, 10) || !c.Used(card, 9) || c.Used(card, 11) {
		t.Error("the widest window")
	}
}

func TestRoom(t *testing.T) {
	c, _ := cryptogram.New(1, 0)
	for i := range 65 {
		n, _ := pan.Make("4", i, 16)
		s, _ := cryptogram.Make(1, n, 1, hundred, "")
		want := api.OK
		if i == 64 {
			want = api.ErrFull
		}
		if e := c.Check(n, 1, hundred, "", s); e != want {
			t.Error(i, e)
		}
	}
	n, _ := pan.Make("4", 0, 16)
	s, _ := cryptogram.Make(1, n, 2, hundred, "")
	if e := c.Check(n, 2, hundred, "", s); e != api.OK {
		t.Error(e)
	}
	var none *cryptogram.Checker
	if none.Check(n, 2, hundred, "", s) != api.ErrNone || none.Last(n) != 0 || none.Used(n, 1) {
		t.Error("nil checker")
	}
	s, _ = cryptogram.Make(0, n, 2, hundred, "")
	new(cryptogram.Checker).Check(n, 2, hundred, "", s)
}
