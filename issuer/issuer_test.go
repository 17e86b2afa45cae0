package issuer_test

import (
	"slices"
	"strconv"
	"testing"

	"cardnet/api"
	"cardnet/issuer"
	"cardnet/message"
	"cardnet/plain"
	"cardnet/ruletext"
)

const mine, other = "4000000000000077", "4000000000000002"
const r1, r2, r3 = "000010000001", "000010000002", "000010000003"
const day = 86400

func host(t *testing.T) *issuer.Host {
	h, e := issuer.New("homebank", "EUR", 7)
	if e != api.OK {
		t.Fatal(e)
	}
	for _, number := range []string{mine, other} {
		if e := h.Issue(number, 100, 1000, 0, 5000, 20); e != api.OK {
			t.Fatal(e)
		}
	}
	return h
}

// with returns a message with some elements more, or others; an empty value leaves an element out.
func with(m api.Message, parts ...string) api.Message {
	for i := 0; i < len(parts); i += 2 {
		n, _ := strconv.Atoi(parts[i])
		m = message.Without(m, n)
		if parts[i+1] != "" {
			m, _ = message.With(m, n, parts[i+1])
		}
	}
	return m
}

func request(ref string, amount int64, parts ...string) api.Message {
	m := with(api.Message{Type: 100}, "2", mine, "3", "000000", "4", plain.Digits(amount, 12), "7", "0000000000010", "11", "000001", "32", "shopbank", "37", ref, "41", "t1", "42", "m1", "49", "EUR")
	return with(m, parts...)
}

func advice(ref string, amount int64, parts ...string) api.Message {
	m := request(ref, amount, "39", "00")
	m.Type = 120
	return with(m, parts...)
}

func reversal(kind int, ref, original string) api.Message {
	m := request(ref, 1, "56", original, "3", "", "7", "", "41", "", "42", "")
	m.Type = kind
	return m
}

// send handles a message, and checks the code of the reply and its elements 4 and 38.
func send(t *testing.T, h *issuer.Host, at int, m api.Message, code, amount, approval string) {
	t.Helper()
	r, e := h.Handle(at, m)
	got, _ := message.Get(r, 39)
	four, _ := message.Get(r, 4)
	id, _ := message.Get(r, 38)
	if amount == "" {
		amount, _ = message.Get(m, 4)
	}
	if got != code || four != amount || id != approval || e != api.OK || !message.Answers(m, r) {
		t.Error(r, e, "want", code, amount, approval)
	}
}

func state(t *testing.T, h *issuer.Host, number string, balance, held int64) {
	t.Helper()
	if b, n, ok := h.Account(number); b != balance || n != held || !ok {
		t.Error(b, n, ok)
	}
}

func TestNewIssue(t *testing.T) {
	for i, c := range []struct {
		name, currency string
		days           int
		want           api.Errno
	}{{"a", "EUR", 1, 0}, {"a", "EUR", 365, 0}, {"a-b", "eur", 0, api.ErrName}, {"a", "eur", 0, api.ErrCurrency}, {"a", "EUR", 0, api.ErrRange}, {"a", "EUR", 366, api.ErrRange}} {
		if h, e := issuer.New(c.name, c.currency, c.days); e != c.want || (h == nil) != (e != api.OK) {
			t.Error(i, e)
		}
	}
	h := host(t)
	for i, c := range []struct{ got, want api.Errno }{
		{h.Issue("4", -1, 1<<60, 0, -1, 0), api.ErrShort}, {h.Issue(mine, -1, 0, 0, -1, 0), api.ErrTime}, {h.Issue(mine, 0, 1<<60, 0, -1, 0), api.ErrRange}, {h.Issue(mine, 0, 1<<60, 0, 0, 0), api.ErrRange}, {h.Issue(mine, 0, 0, 0, 0, 0), api.ErrExists},
		{h.Card("x", 1), api.ErrNone}, {h.Card(mine, 1), api.ErrState}, {h.Card(mine, 9), api.ErrRange}, {h.Card(mine, 2), 0}, {h.Rules(make([]api.Rule, 65), 1, 1), api.ErrLong}, {h.Rules(nil, 1, 1), 0},
	} {
		if c.got != c.want {
			t.Error(i, c.got)
		}
	}
	if b, n, ok := h.Account("x"); b != 0 || n != 0 || ok {
		t.Error(b, n, ok)
	}
}

func TestHandleErrors(t *testing.T) {
	h := host(t)
	net := with(api.Message{Type: 800}, "11", "000001", "70", "301")
	if r, e := h.Handle(50, net); r.Type != 810 || e != api.OK {
		t.Error(r, e)
	}
	reply, _ := message.Reply(request(r1, 5), "00")
	for i, c := range []struct {
		at   int
		m    api.Message
		want api.Errno
	}{
		{0, request(r1, 5, "49", ""), api.ErrShort}, {49, request(r1, 5), api.ErrTime}, {-1, reply, api.ErrTime}, {1 << 40, request(r1, 5), api.ErrTime}, {50, reply, api.ErrState}, {50, api.Message{Type: 9999}, api.ErrState},
	} {
		if r, e := h.Handle(c.at, c.m); r.Type != 0 || e != c.want {
			t.Error(i, r, e)
		}
	}
	if r, e := h.Handle(60, net); r.Type != 810 || e != api.OK {
		t.Error(r, e)
	}
	// The repetition has moved the present time.
	if _, e := h.Handle(59, net); e != api.ErrTime {
		t.Error(e)
	}
}

func TestRequests(t *testing.T) {
	h := host(t)
	send(t, h, 10, request(r1, 600), "00", "", "000001")
	state(t, h, mine, 1000, 600)
	if a, ok := h.Auth(r1); a != (api.Auth{Id: r1, Currency: "EUR", Approved: 600, State: 1, At: 10, Until: 10 + 7*day}) || !ok {
		t.Error(a, ok)
	}
	send(t, h, 10, request(r2, 600), "51", "", "")
	send(t, h, 10, request(r3, 600, "54", "000000000100"), "10", "000000000400", "000003")
	state(t, h, mine, 1000, 1000)
	send(t, h, 11, request(r3, 600, "54", "000000000100"), "10", "000000000400", "000003")
	// A request with another key about the same reference gets the approved amount.
	send(t, h, 11, request(r1, 5, "56", r2), "00", "000000000600", "000001")
	state(t, h, mine, 1000, 1000)
	if l := h.Auths(); len(l) != 2 || l[0].Id != r1 || l[1].Approved != 400 {
		t.Error(l)
	}
	send(t, h, 12, reversal(420, "000010000009", r1), "00", "", "")
	state(t, h, mine, 1000, 400)
	if a, _ := h.Auth(r1); a.State != api.AuthReversed {
		t.Error(a)
	}
	if e := h.Post(13, api.Record{Kind: api.RcPresent, Id: "p1", Auth: r3, Card: mine, Amount: api.Money{Amount: 400, Currency: "EUR"}, Final: true}); e != api.OK {
		t.Error(e)
	}
	state(t, h, mine, 600, 0)
}

func TestRefusals(t *testing.T) {
	h := host(t)
	n := 100
	ref := func() string { n++; return plain.Digits(int64(n), 12) }
	send(t, h, 10, reversal(400, "000010000009", r1), "00", "", "")
	send(t, h, 10, request(r1, 5, "2", "4"), "05", "", "")
	send(t, h, 10, request(ref(), 5, "2", "4", "49", "USD"), "14", "", "")
	send(t, h, 10, request(ref(), 5, "49", "USD"), "12", "", "")
	send(t, h, 10, request(ref(), 0), "12", "", "")
	send(t, h, 10, request(ref(), 5, "54", "000000000000"), "12", "", "")
	send(t, h, 10, request(ref(), 5, "54", "000000000006"), "12", "", "")
	send(t, h, 10, request(ref(), 5001), "61", "", "")
	send(t, h, 10, request(ref(), 1001), "51", "", "")
	send(t, h, 10, request(ref(), 5, "54", "000000000005"), "00", "", plain.Digits(int64(n), 6))
	h.Card(mine, 2)
	send(t, h, 10, request(ref(), 0), "12", "", "")
	send(t, h, 101*day, request(ref(), 5), "41", "", "")
	h.Card(mine, 3)
	send(t, h, 101*day, request(ref(), 5), "33", "", "")
	h.Issue("4111111111111111", 200, 1000, 0, 10, 2)
	for i, c := range []struct {
		amount int64
		code   string
	}{{11, "61"}, {4, "00"}, {7, "61"}, {4, "00"}, {3, "61"}, {2, "65"}} {
		id := ref()
		if c.code != "00" {
			send(t, h, 101*day+i, request(id, c.amount, "2", "4111111111111111"), c.code, "", "")
		} else {
			send(t, h, 101*day+i, request(id, c.amount, "2", "4111111111111111"), c.code, "", id[6:])
		}
	}
	// A reversal takes back the use of the day.
	send(t, h, 101*day+9, reversal(400, "000010000019", plain.Digits(int64(n-2), 12)), "00", "", "")
	send(t, h, 101*day+9, request(ref(), 6, "2", "4111111111111111"), "00", "", plain.Digits(int64(n), 6))
}

func TestRules(t *testing.T) {
	h := host(t)
	l, _, _ := ruletext.Parse("rule many when 2 <= count(card, 60): refer; rule big when 500 < amount: decline;")
	h.Rules(l, 100, 100)
	send(t, h, 10, request(r1, 501), "05", "", "")
	send(t, h, 10, request(r2, 5), "00", "", "000002")
	send(t, h, 20, request(r3, 5), "00", "", "000003")
	send(t, h, 30, request("000010000004", 5), "91", "", "")
	send(t, h, 70, request("000010000005", 6000), "05", "", "")
	send(t, h, 70, request("000010000006", 5), "00", "", "000006")
}

func TestRaises(t *testing.T) {
	h := host(t)
	raise := func(ref string, amount int64, original string, parts ...string) api.Message {
		return with(request(ref, 1, "95", plain.Digits(amount, 12), "56", original), parts...)
	}
	send(t, h, 10, request(r1, 600), "00", "", "000001")
	send(t, h, 20, raise(r2, 300, r1), "00", "", "")
	state(t, h, mine, 1000, 900)
	if a, _ := h.Auth(r1); a.Approved != 900 || a.Until != 20+7*day {
		t.Error(a)
	}
	send(t, h, 21, raise("000010000011", 101, r1), "51", "", "")
	send(t, h, 21, raise("000010000012", 0, r1), "12", "", "")
	send(t, h, 21, raise("000010000013", 1, r1, "49", "USD"), "12", "", "")
	send(t, h, 21, raise("000010000014", 1, r3), "25", "", "")
	send(t, h, 21, raise("000010000015", 1, r1, "2", other), "25", "", "")
	send(t, h, 21, raise("000010000016", 1, r1, "56", ""), "25", "", "")
	send(t, h, 22, reversal(420, "000010000017", "000010000018"), "00", "", "")
	send(t, h, 22, raise("000010000018", 1, r1), "05", "", "")
	send(t, h, 22, reversal(420, "000010000019", r1), "00", "", "")
	send(t, h, 22, raise("000010000020", 1, r1), "25", "", "")
	state(t, h, mine, 1000, 0)
}

func TestAdvices(t *testing.T) {
	h := host(t)
	h.Card(mine, 4)
	send(t, h, 10, advice(r1, 600, "39", "05", "2", "4"), "00", "", "")
	if len(h.Auths()) != 0 {
		t.Error(h.Auths())
	}
	send(t, h, 10, advice(r2, 600, "2", "4", "49", "USD"), "14", "", "")
	send(t, h, 10, advice("000010000021", 600, "49", "USD"), "12", "", "")
	send(t, h, 10, advice("000010000022", 0), "12", "", "")
	send(t, h, 10, advice(r3, 1600), "00", "", "")
	state(t, h, mine, 1000, 1600)
	send(t, h, 11, advice(r3, 1600), "00", "", "")
	send(t, h, 12, advice(r3, 1700, "56", r1), "00", "", "")
	state(t, h, mine, 1000, 1700)
	send(t, h, 12, advice(r3, 1500, "56", r2), "00", "", "")
	send(t, h, 12, advice(r3, 1800, "56", r3, "2", other), "00", "", "")
	state(t, h, mine, 1000, 1700)
	if a, _ := h.Auth(r3); a.Approved != 1700 || a.Until != 10+7*day {
		t.Error(a)
	}
	send(t, h, 12, reversal(420, "000010000017", "000010000018"), "00", "", "")
	send(t, h, 12, advice("000010000018", 5), "00", "", "")
	send(t, h, 12, reversal(420, "000010000019", r3), "00", "", "")
	send(t, h, 12, advice(r3, 1900, "56", "000010000018"), "00", "", "")
	state(t, h, mine, 1000, 0)
	if len(h.Auths()) != 1 {
		t.Error(h.Auths())
	}
}

func TestPost(t *testing.T) {
	h := host(t)
	send(t, h, 10, request(r1, 600), "00", "", "000001")
	rec := func(change func(r *api.Record)) api.Record {
		r := api.Record{Kind: api.RcPresent, Id: "p1", Auth: r1, Card: mine, Amount: api.Money{Amount: 250, Currency: "EUR"}}
		change(&r)
		return r
	}
	for i, c := range []struct {
		at     int
		change func(r *api.Record)
		want   api.Errno
	}{
		{10, func(r *api.Record) { r.Kind, r.Id = 0, "" }, api.ErrRange}, {10, func(r *api.Record) { r.Kind = 5 }, api.ErrRange}, {10, func(r *api.Record) { r.Amount.Amount = 0 }, api.ErrRange}, {10, func(r *api.Record) { r.Amount.Amount = api.MaxAmount + 1 }, api.ErrRange},
		{9, func(r *api.Record) { r.Id = "a b" }, api.ErrName}, {9, func(r *api.Record) { r.Amount.Currency = "x" }, api.ErrTime}, {10, func(r *api.Record) { r.Amount.Currency, r.Card = "USD", "" }, api.ErrCurrency}, {10, func(r *api.Record) { r.Card = "x" }, api.ErrNone},
		{10, func(r *api.Record) { r.Auth = r2 }, api.ErrNone}, {10, func(r *api.Record) { r.Card = other }, api.ErrNone}, {11, func(r *api.Record) {}, 0}, {11, func(r *api.Record) { r.Auth = r2 }, api.ErrDuplicate}, {10, func(r *api.Record) {}, api.ErrTime},
		{12, func(r *api.Record) { r.Id, r.Final = "p2", true }, 0}, {12, func(r *api.Record) { r.Id = "p3" }, api.ErrState}, {12, func(r *api.Record) { r.Id, r.Auth = "p4", "" }, 0}, {12, func(r *api.Record) { r.Id, r.Kind = "p5", api.RcRefund }, 0},
		{12, func(r *api.Record) { r.Id, r.Kind = "p6", api.RcChargeback }, 0}, {12, func(r *api.Record) { r.Id, r.Kind = "p7", api.RcRepresent }, 0},
	} {
		if e := h.Post(c.at, rec(c.change)); e != c.want {
			t.Error(i, e)
		}
	}
	state(t, h, mine, 500, 0)
	for id, want := range map[string]int64{"p1": 250, "p5": -250, "p6": -250, "p7": 250} {
		if n, ok := h.Charged(id); n != want || !ok {
			t.Error(id, n, ok)
		}
	}
	if n, ok := h.Charged("p3"); n != 0 || ok {
		t.Error(n, ok)
	}
}

func TestExpire(t *testing.T) {
	h := host(t)
	send(t, h, 10, request(r1, 100), "00", "", "000001")
	send(t, h, 11, request(r2, 200), "00", "", "000002")
	if l := h.Expire(10 + 7*day - 1); len(l) != 0 {
		t.Error(l)
	}
	if l := h.Expire(10); len(l) != 0 {
		t.Error(l)
	}
	if l := h.Expire(1 << 40); len(l) != 0 {
		t.Error(l)
	}
	if l := h.Expire(10 + 7*day); !slices.Equal(l, []string{r1}) {
		t.Error(l)
	}
	state(t, h, mine, 1000, 200)
	if l := h.Expire(11 + 7*day); !slices.Equal(l, []string{r2}) {
		t.Error(l)
	}
	if a, _ := h.Auth(r1); a.State != api.AuthExpired {
		t.Error(a)
	}
	if _, e := h.Handle(10+7*day, request(r3, 1)); e != api.ErrTime {
		t.Error(e)
	}
}

func TestRoom(t *testing.T) {
	h, _ := issuer.New("homebank", "EUR", 7)
	h.Issue(mine, 100, 1000, 0, 100000, 1000)
	for i := range 65 {
		id := plain.Digits(int64(i+1), 12)
		code, approval := "00", id[6:]
		if i == 64 {
			code, approval = "12", ""
		}
		send(t, h, i, request(id, 1), code, "", approval)
	}
	var none *issuer.Host
	if r, e := none.Handle(0, request(r1, 1)); r.Type != 0 || e != api.ErrNone || none.Post(0, api.Record{}) != e || none.Issue("", 0, 0, 0, 0, 0) != e || none.Card("", 1) != e || none.Rules(nil, 1, 1) != e || len(none.Expire(0)) != 0 || len(none.Auths()) != 0 {
		t.Error("nil host")
	}
	zero := new(issuer.Host)
	zero.Handle(0, reversal(420, r1, r2))
	if _, ok := none.Auth(r1); ok {
		t.Error("nil host")
	}
}

func TestFull(t *testing.T) {
	h := host(t)
	for i := range 257 {
		id := plain.Digits(int64(i+1), 12)
		code := "00"
		if i == 256 {
			code = "12"
		}
		send(t, h, i, advice(id, 1), code, "", "")
		send(t, h, i, reversal(420, plain.Digits(int64(i+1000), 12), id), "00", "", "")
	}
	send(t, h, 999, request("000000000999", 1), "12", "", "")
}

func TestOrder(t *testing.T) {
	h := host(t)
	h.Card(mine, 2)
	// What is wrong with the message is found before what is wrong with the card.
	for i, m := range []api.Message{request(r1, 5, "54", "000000000000"), request(r2, 5, "54", "000000000006"), request(r3, 0)} {
		send(t, h, 10+i, m, "12", "", "")
	}
	h.Card(mine, 3)
	send(t, h, 100*day, request("000010000004", 5), "00", "", "000004")
	send(t, h, 101*day, request("000010000005", 5), "33", "", "")
	for i, c := range []struct {
		kind   int
		amount int64
		want   api.Errno
	}{{api.RcRefund, 0, api.ErrRange}, {api.RcRefund, -5, api.ErrRange}, {api.RcRefund, 1, 0}, {api.RcRepresent, api.MaxAmount + 1, api.ErrRange}, {api.RcChargeback, api.MaxAmount, 0}} {
		r := api.Record{Kind: c.kind, Id: "x" + strconv.Itoa(i), Card: mine, Amount: api.Money{Amount: c.amount, Currency: "EUR"}}
		if e := h.Post(101*day, r); e != c.want {
			t.Error(i, e)
		}
	}
}

// TestAccounts lets messages concern one of two accounts only.
func TestAccounts(t *testing.T) {
	h := host(t)
	send(t, h, 10, request(r1, 100), "00", "", "000001")
	send(t, h, 10, request(r2, 200, "2", other), "00", "", "000002")
	state(t, h, mine, 1000, 100)
	state(t, h, other, 1000, 200)
	send(t, h, 20, advice(r1, 300, "56", r3), "00", "", "")
	if a, _ := h.Auth(r1); a.Approved != 300 || a.Until != 10+7*day {
		t.Error(a)
	}
	state(t, h, mine, 1000, 300)
	send(t, h, 21, reversal(420, r3, r2), "00", "", "")
	state(t, h, mine, 1000, 300)
	state(t, h, other, 1000, 0)
}

func TestPostWithoutAuth(t *testing.T) {
	h := host(t)
	balance := int64(1000)
	for i, c := range []struct {
		kind   int
		debit  int64
		auth   string
		amount int64
	}{{api.RcPresent, 100, "", 100}, {api.RcRefund, -30, "", 30}, {api.RcChargeback, -7, r1, 7}, {api.RcRepresent, 2000, r1, 2000}} {
		id := "x" + strconv.Itoa(i)
		if e := h.Post(i, api.Record{Kind: c.kind, Id: id, Auth: c.auth, Card: mine, Amount: api.Money{Amount: c.amount, Currency: "EUR"}}); e != api.OK {
			t.Error(i, e)
		}
		balance -= c.debit
		state(t, h, mine, balance, 0)
		if n, ok := h.Charged(id); n != c.debit || !ok {
			t.Error(i, n, ok)
		}
	}
	// The balance has a bound, and a posting beyond it has no effect.
	var e api.Errno
	n := 0
	for ; e == api.OK && n < 10000; n++ {
		e = h.Post(9, api.Record{Kind: api.RcPresent, Id: "y" + strconv.Itoa(n), Card: mine, Amount: api.Money{Amount: api.MaxAmount, Currency: "EUR"}})
	}
	if _, ok := h.Charged("y" + strconv.Itoa(n-1)); e != api.ErrRange || ok {
		t.Error(n, e, ok)
	}
}
