package acquirer_test

import (
	"strings"
	"testing"

	"cardnet/acquirer"
	"cardnet/api"
	"cardnet/message"
)

const day = 86400

func start(t *testing.T) *acquirer.Host {
	h, e := acquirer.New("shopbank", 3, 60, 30)
	if e != api.OK {
		t.Fatal(e)
	}
	return h
}

func buy(amount int64) acquirer.Purchase {
	return acquirer.Purchase{Merchant: "m-1", Terminal: "t1", Card: "4000000000000077", Amount: amount, Currency: "EUR", Category: 5411}
}

func reply(kind int, ref, code string, parts ...string) api.Message {
	m := api.Message{Type: kind}
	m, _ = message.With(m, 37, ref)
	m, _ = message.With(m, 39, code)
	for i := 0; i < len(parts); i += 2 {
		m, _ = message.With(m, map[string]int{"4": 4, "56": 56}[parts[i]], parts[i+1])
	}
	return m
}

// sell begins a purchase and lets it be approved.
func sell(t *testing.T, h *acquirer.Host, at int, amount int64) string {
	t.Helper()
	ref, _, e := h.Purchase(at, buy(amount))
	if e != api.OK || h.Receive(at, reply(110, ref, "00")) != api.OK {
		t.Fatal(ref, e)
	}
	return ref
}

func state(t *testing.T, h *acquirer.Host, ref string, state int, approved, captured, refunded int64) {
	t.Helper()
	s, ok := h.Sale(ref)
	if s.Ref != ref || s.State != state || s.Approved != approved || s.Captured != captured || s.Refunded != refunded || !ok {
		t.Error(s, ok)
	}
}

func next(t *testing.T, h *acquirer.Host, want int, found bool) {
	t.Helper()
	if n, ok := h.Next(); n != want || ok != found {
		t.Error(n, ok)
	}
}

func TestNew(t *testing.T) {
	for i, c := range []struct {
		name                   string
		sender, timeout, retry int
		want                   api.Errno
	}{
		{"a", 0, 1, 1, 0}, {"a", 9, 100000, 100000, 0}, {"a-b", -1, 0, 0, api.ErrName}, {"a", -1, 1, 1, api.ErrRange}, {"a", 10, 1, 1, api.ErrRange}, {"a", 0, 0, 1, api.ErrRange}, {"a", 0, 100001, 1, api.ErrRange}, {"a", 0, 1, 0, api.ErrRange}, {"a", 0, 1, 100001, api.ErrRange},
	} {
		if h, e := acquirer.New(c.name, c.sender, c.timeout, c.retry); e != c.want || (h == nil) != (e != api.OK) {
			t.Error(i, e)
		}
	}
}

func TestPurchase(t *testing.T) {
	h := start(t)
	p := buy(1000)
	p.Least = 5
	ref, m, e := h.Purchase(20*day+7, p)
	text, code := message.Encode(m)
	if ref != "000203000001" || e != api.OK || code != api.OK {
		t.Error(ref, e, code)
	}
	want := "2=4000000000000077 3=000000 4=000000001000 7=0000001728007 11=000001 18=5411 32=shopbank 37=000203000001 41=t1 42=m-1 49=EUR 54=000000000005 "
	got := ""
	for _, x := range m.Elements {
		got += strings.TrimLeft(string(rune('0'+x.Number/10))+string(rune('0'+x.Number%10)), "0") + "=" + x.Value + " "
	}
	if got != want || m.Type != 100 || text == "" {
		t.Error(got)
	}
	if _, m, _ := h.Purchase(20*day+7, buy(1)); len(m.Elements) != 11 {
		t.Error(m)
	}
	for i, c := range []struct {
		at     int
		change func(p *acquirer.Purchase)
		want   api.Errno
	}{
		{-1, func(p *acquirer.Purchase) { p.Merchant, p.Card = "", "" }, api.ErrName}, {-1, func(p *acquirer.Purchase) { p.Terminal = "" }, api.ErrName}, {-1, func(p *acquirer.Purchase) { p.Terminal = "t1 " }, api.ErrName}, {-1, func(p *acquirer.Purchase) { p.Terminal = "123456789" }, api.ErrName}, {-1, func(p *acquirer.Purchase) { p.Terminal = "\n" }, api.ErrName},
		{-1, func(p *acquirer.Purchase) { p.Card, p.Amount = "40000000000", 0 }, api.ErrCard}, {-1, func(p *acquirer.Purchase) { p.Card = strings.Repeat("1", 20) }, api.ErrCard}, {-1, func(p *acquirer.Purchase) { p.Card = "40000000000a" }, api.ErrCard}, {-1, func(p *acquirer.Purchase) { p.Amount, p.Currency = 0, "" }, api.ErrRange},
		{-1, func(p *acquirer.Purchase) { p.Amount = api.MaxAmount + 1 }, api.ErrRange}, {-1, func(p *acquirer.Purchase) { p.Least = -1 }, api.ErrRange}, {-1, func(p *acquirer.Purchase) { p.Least = 1001 }, api.ErrRange}, {-1, func(p *acquirer.Purchase) { p.Category = 0 }, api.ErrRange}, {-1, func(p *acquirer.Purchase) { p.Category = 10000 }, api.ErrRange},
		{-1, func(p *acquirer.Purchase) { p.Currency = "eur" }, api.ErrCurrency}, {20*day + 6, func(p *acquirer.Purchase) {}, api.ErrTime}, {1 << 40, func(p *acquirer.Purchase) {}, api.ErrTime},
	} {
		p := buy(1000)
		c.change(&p)
		if ref, m, e := h.Purchase(c.at, p); ref != "" || m.Type != 0 || e != c.want {
			t.Error(i, ref, e)
		}
	}
	if l := h.Sales(); len(l) != 2 || l[0].Ref != ref || l[0].Purchase != p || l[0].State != 1 {
		t.Error(l)
	}
	for range 254 {
		h.Purchase(20*day+7, buy(1))
	}
	if ref, _, e := h.Purchase(20*day+7, buy(1)); ref != "" || e != api.ErrFull || len(h.Sales()) != 256 {
		t.Error(ref, e)
	}
}

func TestReceive(t *testing.T) {
	h := start(t)
	a, _, _ := h.Purchase(100, buy(1000))
	b, _, _ := h.Purchase(100, buy(1000))
	c, _, _ := h.Purchase(100, buy(1000))
	next(t, h, 160, true)
	bad := reply(110, a, "00")
	bad.Elements = bad.Elements[:1]
	for i, x := range []struct {
		at   int
		m    api.Message
		want api.Errno
	}{
		{0, bad, api.ErrShort}, {0, reply(130, a, "00"), api.ErrState}, {99, reply(110, "1", "00"), api.ErrRange}, {99, reply(110, a, "00"), api.ErrTime}, {1 << 40, reply(110, a, "00"), api.ErrTime}, {150, reply(110, "999999999999", "00"), api.ErrNone}, {150, reply(430, a, "00", "56", a), api.ErrNone},
		{150, reply(110, a, "00", "4", "000000001001"), api.ErrRange}, {150, reply(110, a, "10", "4", "000000000000"), api.ErrRange}, {100, reply(110, a, "10", "4", "000000000400"), 0}, {101, reply(110, b, "05"), 0}, {102, reply(110, a, "05"), 0}, {103, reply(110, b, "00"), 0}, {160, reply(110, c, "00"), 0}, {159, reply(110, c, "00"), api.ErrTime},
	} {
		if e := h.Receive(x.at, x.m); e != x.want {
			t.Error(i, e)
		}
	}
	state(t, h, a, 2, 400, 0, 0)
	state(t, h, b, 3, 0, 0, 0)
	state(t, h, c, 1, 0, 0, 0)
}

func TestReversals(t *testing.T) {
	h := start(t)
	a, _, _ := h.Purchase(100, buy(1000))
	b := sell(t, h, 101, 500)
	if l := h.Poll(159); len(l) != 0 {
		t.Error(l)
	}
	if len(h.Poll(1<<40)) != 0 || len(h.Poll(0)) != 0 {
		t.Error("times that are not permitted")
	}
	for i, c := range []struct{ got, want api.Errno }{{h.Cancel(0, "x"), api.ErrNone}, {h.Cancel(0, a), api.ErrTime}, {h.Cancel(159, a), api.ErrState}, {h.Cancel(159, b), 0}, {h.Cancel(159, b), api.ErrState}} {
		if c.got != c.want {
			t.Error(i, c.got)
		}
	}
	state(t, h, b, 4, 0, 0, 0)
	next(t, h, 159, true)
	l := h.Poll(160)
	if len(l) != 2 {
		t.Fatal(l)
	}
	state(t, h, a, 4, 0, 0, 0)
	m := l[1]
	for n, want := range map[int]string{2: "4000000000000077", 4: "000000001000", 11: "000004", 32: "shopbank", 37: "000003000004", 49: "EUR", 56: a} {
		if s, _ := message.Get(m, n); s != want {
			t.Error(n, s)
		}
	}
	if m.Type != 420 || len(m.Elements) != 7 || message.Check(m) != api.OK {
		t.Error(m)
	}
	first, _ := message.Get(l[0], 37)
	next(t, h, 190, true)
	if l := h.Poll(189); len(l) != 0 {
		t.Error(l)
	}
	if e := h.Receive(189, reply(430, first, "00", "56", b)); e != api.OK {
		t.Error(e)
	}
	if e := h.Receive(189, reply(430, first, "00", "56", b)); e != api.OK {
		t.Error(e)
	}
	if l := h.Poll(190); len(l) != 1 || !message.Same(l[0], m) {
		t.Error(l)
	}
	h.Receive(190, reply(430, "000003000004", "00", "56", a))
	next(t, h, 0, false)
}

func TestCapture(t *testing.T) {
	h := start(t)
	a := sell(t, h, 20*day, 1000)
	w, _, _ := h.Purchase(20*day, buy(5))
	for i, c := range []struct{ got, want api.Errno }{
		{h.Capture(0, "x", 0, false), api.ErrNone}, {h.Capture(0, w, 0, false), api.ErrTime}, {h.Capture(20*day, w, 0, false), api.ErrState}, {h.Capture(20*day, a, 0, false), api.ErrRange}, {h.Capture(20*day, a, api.MaxAmount+1, true), api.ErrRange}, {h.Capture(20*day, a, 1001, false), api.ErrTolerance},
		{h.Capture(21*day, a, 400, false), 0}, {h.Capture(21*day, a, 601, false), api.ErrTolerance}, {h.Capture(21*day, a, 801, true), api.ErrTolerance}, {h.Capture(21*day, a, 800, true), 0}, {h.Capture(21*day, a, 0, true), api.ErrClosed}, {h.Cancel(21*day, a), api.ErrState},
		{h.Refund(0, "x", 0), api.ErrNone}, {h.Refund(0, a, 0), api.ErrTime}, {h.Refund(21*day, a, 0), api.ErrRange}, {h.Refund(21*day, a, 1201), api.ErrRange}, {h.Refund(22*day, a, 1000), 0}, {h.Refund(22*day, a, 201), api.ErrRange}, {h.Refund(22*day, w, 1), api.ErrRange},
	} {
		if c.got != c.want {
			t.Error(i, c.got)
		}
	}
	state(t, h, a, 2, 1000, 1200, 1000)
	if b, e := h.Batch(-1); b.Id != "" || e != api.ErrTime {
		t.Error(b, e)
	}
	b, e := h.Batch(30)
	first := api.Record{Kind: api.RcPresent, Id: a + "-1", Auth: a, Acquirer: "shopbank", Issuer: "network", Merchant: "m-1", Card: "4000000000000077", Amount: api.Money{Amount: 400, Currency: "EUR"}, Date: 21, Category: 5411}
	if b.Id != "F30-1" || b.Sender != "shopbank" || b.Date != 30 || len(b.Records) != 3 || b.Records[0] != first || e != api.OK {
		t.Error(b, e)
	}
	if r := b.Records[1]; r.Id != a+"-2" || r.Amount.Amount != 800 || !r.Final {
		t.Error(r)
	}
	if r := b.Records[2]; r.Id != a+"r1" || r.Kind != api.RcRefund || r.Auth != "" || r.Final || r.Date != 22 || r.Amount.Amount != 1000 {
		t.Error(r)
	}
	if b, e := h.Batch(30); b.Id != "" || e != api.ErrNone {
		t.Error(b, e)
	}
	many := sell(t, h, 22*day, 1000)
	for i := range 9 {
		want := api.OK
		if i == 8 {
			want = api.ErrLimit
		}
		if c, r := h.Capture(22*day, many, 2, false), h.Refund(22*day, many, 1); c != want || r != want {
			t.Error(i, c, r)
		}
	}
	if e := h.Capture(22*day, many, 0, false); e != api.ErrLimit {
		t.Error(e)
	}
}

func TestResubmit(t *testing.T) {
	h := start(t)
	a := sell(t, h, 0, 1000)
	h.Capture(0, a, 5, false)
	id := a + "-1"
	if e := h.Resubmit(id, "", ""); e != api.ErrNone {
		t.Error(e)
	}
	h.Batch(0)
	for i, c := range []struct{ got, want api.Errno }{{h.Resubmit("x", "4", "a b"), api.ErrNone}, {h.Resubmit(id, "4", "a b"), api.ErrCard}, {h.Resubmit(id, "", "a b"), api.ErrName}, {h.Resubmit(id, "400000000000", "other"), 0}, {h.Resubmit(id, "", ""), 0}, {h.Resubmit(id+"s1", "", ""), api.ErrNone}} {
		if c.got != c.want {
			t.Error(i, c.got)
		}
	}
	b, _ := h.Batch(1)
	if len(b.Records) != 2 || b.Id != "F1-2" {
		t.Fatal(b)
	}
	if r := b.Records[0]; r.Id != id+"s1" || r.Card != "400000000000" || r.Auth != "other" || r.Amount.Amount != 5 {
		t.Error(r)
	}
	if r := b.Records[1]; r.Id != id+"s2" || r.Card != "4000000000000077" || r.Auth != a {
		t.Error(r)
	}
	if e := h.Resubmit(id+"s1", "", ""); e != api.OK {
		t.Error(e)
	}
	b, _ = h.Batch(1)
	if r := b.Records[0]; r.Id != id+"s3" || r.Card != "400000000000" {
		t.Error(r)
	}
	for i := range 7 {
		want := api.OK
		if i == 6 {
			want = api.ErrLimit
		}
		if e := h.Resubmit(id+"s3", "", ""); e != want {
			t.Error(i, e)
		}
	}
}

func TestFiles(t *testing.T) {
	h := start(t)
	for range 26 {
		a := sell(t, h, 0, 1000)
		for range 8 {
			h.Capture(0, a, 1, false)
		}
	}
	b, _ := h.Batch(5)
	c, _ := h.Batch(5)
	if len(b.Records) != 200 || len(c.Records) != 8 || b.Id != "F5-1" || c.Id != "F5-2" {
		t.Error(len(b.Records), len(c.Records), b.Id, c.Id)
	}
	var none *acquirer.Host
	ref, _, e := none.Purchase(0, buy(1))
	if x, f := none.Batch(0); ref != "" || e != api.ErrNone || x.Id != "" || f != e || none.Receive(0, api.Message{}) != e || none.Cancel(0, "") != e || none.Capture(0, "", 1, true) != e || none.Refund(0, "", 1) != e || none.Resubmit("", "", "") != e || len(none.Poll(0)) != 0 || len(none.Sales()) != 0 {
		t.Error("nil host")
	}
	if s, ok := none.Sale(""); ok || s != (acquirer.Sale{}) {
		t.Error(s)
	}
	next(t, none, 0, false)
}

func TestBounds(t *testing.T) {
	h := start(t)
	for i, c := range []struct {
		change func(p *acquirer.Purchase)
		want   api.Errno
	}{
		{func(p *acquirer.Purchase) { p.Terminal = "!" }, 0}, {func(p *acquirer.Purchase) { p.Terminal = "a ~" }, 0}, {func(p *acquirer.Purchase) { p.Terminal = "12345678" }, 0}, {func(p *acquirer.Purchase) { p.Terminal = "a\x7fb" }, api.ErrName}, {func(p *acquirer.Purchase) { p.Terminal = "a\x1fb" }, api.ErrName}, {func(p *acquirer.Purchase) { p.Card = strings.Repeat("1", 19) }, 0}, {func(p *acquirer.Purchase) { p.Card = strings.Repeat("1", 12) }, 0},
		{func(p *acquirer.Purchase) { p.Least = p.Amount }, 0}, {func(p *acquirer.Purchase) { p.Category = 1 }, 0}, {func(p *acquirer.Purchase) { p.Category = 9999 }, 0}, {func(p *acquirer.Purchase) { p.Amount = api.MaxAmount }, 0}, {func(p *acquirer.Purchase) { p.Amount = 1 }, 0},
	} {
		p := buy(1000)
		c.change(&p)
		_, m, e := h.Purchase(i, p)
		if e != c.want || e == api.OK && message.Check(m) != api.OK {
			t.Error(i, e, m)
		}
	}
	ref, _, _ := h.Purchase(50, buy(9))
	if e := h.Receive(50, reply(110, ref, "10", "4", "000000000001")); e != api.OK {
		t.Error(e)
	}
	state(t, h, ref, 2, 1, 0, 0)
}

// TestPresentTime lets each call move the present time.
func TestPresentTime(t *testing.T) {
	h := start(t)
	a, b := sell(t, h, 0, 1000), sell(t, h, 0, 1000)
	at := 10
	past := func(what string) {
		t.Helper()
		if _, _, e := h.Purchase(at-1, buy(1)); e != api.ErrTime {
			t.Error(what, e)
		}
		at += 10
	}
	h.Cancel(at, a)
	past("Cancel")
	h.Poll(at)
	past("Poll")
	h.Capture(at, b, 1000, true)
	past("Capture")
	if e := h.Refund(at, b, 1000); e != api.OK {
		t.Error(e)
	}
	past("Refund")
	h.Purchase(at, buy(1))
	past("Purchase")
	h.Receive(at, reply(110, b, "00"))
	past("Receive")
	h.Batch(1)
	if _, _, e := h.Purchase(at-10, buy(1)); e != api.OK {
		t.Error("a file has no time", e)
	}
}
