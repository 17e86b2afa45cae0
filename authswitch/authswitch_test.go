package authswitch_test

import (
	"strconv"
	"testing"

	"cardnet/api"
	"cardnet/authswitch"
	"cardnet/message"
	"cardnet/plain"
	"cardnet/route"
	"cardnet/standin"
	"cardnet/token"
)

const card = "4000000000000077"
const r1, r2 = "000203000001", "000203000002"

var ranges = []api.Range{{Low: "400000", High: "400999", Issuer: "homebank", Product: "gold"}}
var limits = []standin.Limit{{Issuer: "homebank", Each: 1000, Day: 5000, Count: 5}}

func start(t *testing.T, b ...route.Backup) *authswitch.Switch {
	s, e := authswitch.New(ranges, b, limits, 30, 60)
	if e != api.OK {
		t.Fatal(e)
	}
	return s
}

func with(m api.Message, parts ...string) api.Message {
	for i := 0; i < len(parts); i += 2 {
		n, _ := strconv.Atoi(parts[i])
		m = message.Without(m, n)
		if parts[i+1] != "" {
			m, _ = message.With(m, n, parts[i+1])
		}
	}
	return m
}

func request(ref string, amount int64, parts ...string) api.Message {
	m := with(api.Message{Type: 100}, "2", card, "3", "000000", "4", plain.Digits(amount, 12), "7", "0000000000010", "11", "000001", "32", "shopbank", "37", ref, "41", "t1", "42", "m1", "49", "EUR")
	return with(m, parts...)
}

func reversal(kind int, ref, original string) api.Message {
	m := request(ref, 1, "56", original, "3", "", "7", "", "41", "", "42", "")
	m.Type = kind
	return m
}

func answer(m api.Message, code string, parts ...string) api.Message {
	r, _ := message.Reply(m, code)
	return with(r, parts...)
}

func value(m api.Message, n int) string {
	s, _ := message.Get(m, n)
	return s
}

// show returns messages in short: to whom, the type, and the elements 37, 56, 39, 4 and 38.
func show(out []authswitch.Out) string {
	s := ""
	for _, o := range out {
		if message.Check(o.Message) != api.OK {
			s += "invalid "
		}
		s += o.To + " " + strconv.Itoa(o.Message.Type) + " " + value(o.Message, 37)[6:] + value(o.Message, 56) + " " + value(o.Message, 39) + " " + value(o.Message, 4)[8:] + " " + value(o.Message, 38) + ";"
	}
	return s
}

func handle(t *testing.T, s *authswitch.Switch, at int, from string, m api.Message, want string) {
	t.Helper()
	out, e := s.Handle(at, from, m)
	if show(out) != want || e != api.OK {
		t.Errorf("got  %q %d\nwant %q", show(out), e, want)
	}
}

func poll(t *testing.T, s *authswitch.Switch, at int, want string) {
	t.Helper()
	if out := s.Poll(at); show(out) != want {
		t.Errorf("got  %q\nwant %q", show(out), want)
	}
}

func decided(t *testing.T, s *authswitch.Switch, ref, code string, by int) {
	t.Helper()
	if c, n, ok := s.Decision(ref); c != code || n != by || ok != (by > 0) {
		t.Error(c, n, ok)
	}
}

func next(t *testing.T, s *authswitch.Switch, want int, found bool, waiting int) {
	t.Helper()
	if n, ok := s.Next(); n != want || ok != found || s.Waiting() != waiting {
		t.Error(n, ok, s.Waiting())
	}
}

func TestNew(t *testing.T) {
	for i, c := range []struct {
		l              []api.Range
		b              []route.Backup
		s              []standin.Limit
		timeout, retry int
		want           api.Errno
	}{
		{ranges, nil, limits, 1, 1, 0}, {[]api.Range{{}}, nil, []standin.Limit{{}}, 0, 0, api.ErrFormat}, {ranges, []route.Backup{{Issuer: "x", Party: "y"}}, nil, 0, 0, api.ErrNone}, {ranges, nil, []standin.Limit{{}}, 0, 0, api.ErrName}, {ranges, nil, limits, 0, 1, api.ErrRange}, {ranges, nil, limits, 1, 0, api.ErrRange},
	} {
		if s, e := authswitch.New(c.l, c.b, c.s, c.timeout, c.retry); e != c.want || (s == nil) != (e != api.OK) {
			t.Error(i, e)
		}
	}
}

func TestAnswer(t *testing.T) {
	s := start(t)
	m := request(r1, 500)
	handle(t, s, 10, "shopbank", m, "homebank 100 000001  0500 ;")
	handle(t, s, 11, "shopbank", m, "")
	decided(t, s, r1, "", 0)
	next(t, s, 40, true, 1)
	handle(t, s, 11, "other", answer(m, "00"), "")
	handle(t, s, 12, "homebank", answer(m, "10", "4", "000000000400", "38", "123456"), "shopbank 110 000001 10 0400 123456;")
	handle(t, s, 13, "homebank", answer(m, "05"), "")
	handle(t, s, 14, "again", m, "again 110 000001 10 0400 123456;")
	decided(t, s, r1, "10", 1)
	next(t, s, 0, false, 0)
	handle(t, s, 15, "shopbank", request(r2, 7), "homebank 100 000002  0007 ;")
	handle(t, s, 16, "homebank", answer(request(r2, 7), "00", "4", ""), "shopbank 110 000002 00 0007 000002;")
	handle(t, s, 17, "homebank", answer(request("000203000009", 7), "00"), "")
	handle(t, s, 17, "shopbank", request("000203000003", 7), "homebank 100 000003  0007 ;")
	handle(t, s, 18, "homebank", answer(request("000203000003", 7), "51", "38", "000001"), "shopbank 110 000003 51 0007 ;")
	poll(t, s, 1000, "")
}

func TestErrors(t *testing.T) {
	s := start(t)
	s.Poll(50)
	for i, c := range []struct {
		at   int
		from string
		m    api.Message
		want api.Errno
	}{
		{0, "a b", api.Message{}, api.ErrName}, {0, "a", request(r1, 1, "49", ""), api.ErrShort}, {49, "a", request(r1, 1), api.ErrTime}, {api.MaxTime + 1, "a", request(r1, 1), api.ErrTime}, {-1, "a", api.Message{Type: 900}, api.ErrTime}, {50, "a", api.Message{Type: 900}, api.ErrState},
		{50, "a", with(api.Message{Type: 810}, "11", "000001", "39", "00"), api.ErrState},
	} {
		if out, e := s.Handle(c.at, c.from, c.m); len(out) != 0 || e != c.want {
			t.Error(i, out, e)
		}
	}
	out, e := s.Handle(60, "a", with(api.Message{Type: 800}, "11", "000001", "70", "301"))
	if len(out) != 1 || out[0].To != "a" || out[0].Message.Type != 810 || value(out[0].Message, 39) != "00" || e != api.OK {
		t.Error(out, e)
	}
	if len(s.Poll(59)) != 0 || len(s.Poll(-1)) != 0 || len(s.Poll(api.MaxTime+1)) != 0 {
		t.Error("times that are not permitted")
	}
	for i := range 256 {
		if _, e := s.Handle(60, "a", request(plain.Digits(int64(i+1), 12), 1)); e != api.OK {
			t.Fatal(e)
		}
	}
	if out, e := s.Handle(60, "a", request(r1, 1)); len(out) != 0 || e != api.ErrFull || s.Waiting() != 256 {
		t.Error(out, e)
	}
	if _, e := s.Handle(60, "a", request("000000000007", 1)); e != api.OK {
		t.Error(e)
	}
}

func TestStandIn(t *testing.T) {
	s := start(t)
	m := request(r1, 500, "54", "000000000100")
	handle(t, s, 10, "shopbank", m, "homebank 100 000001  0500 ;")
	poll(t, s, 39, "")
	poll(t, s, 40, "shopbank 110 000001 00 0500 000001;homebank 120 000001 00 0500 ;")
	decided(t, s, r1, "00", 3)
	next(t, s, 100, true, 1)
	handle(t, s, 41, "homebank", answer(m, "05"), "")
	poll(t, s, 99, "")
	out := s.Poll(100)
	if len(out) != 1 || out[0].Message.Type != 120 || value(out[0].Message, 54) != "" {
		t.Error(out)
	}
	handle(t, s, 101, "other", answer(out[0].Message, "00"), "")
	next(t, s, 160, true, 1)
	handle(t, s, 101, "homebank", answer(out[0].Message, "00"), "")
	next(t, s, 0, false, 0)
	handle(t, s, 110, "shopbank", request(r2, 2000), "homebank 100 000002  2000 ;")
	poll(t, s, 140, "shopbank 110 000002 91 2000 ;homebank 420 000002"+r2+"  2000 ;")
	decided(t, s, r2, "91", 3)
	handle(t, s, 141, "homebank", answer(reversal(420, r2, r2), "00"), "")
	next(t, s, 0, false, 0)
}

func TestBackups(t *testing.T) {
	s := start(t, route.Backup{Issuer: "homebank", Party: "helper"}, route.Backup{Issuer: "homebank", Party: "second"})
	m := request(r1, 500)
	handle(t, s, 10, "shopbank", m, "homebank 100 000001  0500 ;")
	poll(t, s, 40, "helper 100 000001  0500 ;")
	poll(t, s, 70, "second 100 000001  0500 ;")
	handle(t, s, 71, "helper", answer(m, "00"), "")
	handle(t, s, 72, "second", answer(m, "10", "4", "000000000300"), "shopbank 110 000001 10 0300 000001;")
	decided(t, s, r1, "10", 2)
	poll(t, s, 72, "helper 420 000001"+r1+"  0500 ;homebank 120 000001 00 0300 ;")
	m = request(r2, 500)
	handle(t, s, 80, "shopbank", m, "homebank 100 000002  0500 ;")
	poll(t, s, 110, "helper 100 000002  0500 ;")
	handle(t, s, 111, "helper", answer(m, "05"), "shopbank 110 000002 05 0500 ;")
	poll(t, s, 131, "homebank 420 000002"+r2+"  0500 ;")
	// After three failures in a row the issuer is not asked any more, until it answers.
	handle(t, s, 132, "shopbank", request("000203000003", 1), "homebank 100 000003  0001 ;")
	poll(t, s, 162, "helper 100 000003  0001 ;helper 420 000001"+r1+"  0500 ;homebank 120 000001 00 0300 ;")
	handle(t, s, 163, "shopbank", request("000203000004", 1), "helper 100 000004  0001 ;")
	handle(t, s, 164, "homebank", answer(reversal(420, r2, r2), "00"), "")
	handle(t, s, 165, "shopbank", request("000203000005", 1), "homebank 100 000005  0001 ;")
}

func TestReversals(t *testing.T) {
	s := start(t)
	// A request that comes after its reversal is declined.
	handle(t, s, 10, "shopbank", reversal(420, "000203000008", r1), "shopbank 430 000008"+r1+" 00 0001 ;")
	handle(t, s, 11, "shopbank", request(r1, 5), "shopbank 110 000001 05 0005 ;")
	decided(t, s, r1, "05", 4)
	// No route was chosen, so that nobody is told of another reversal.
	handle(t, s, 11, "shopbank", reversal(420, "000203000007", r1), "shopbank 430 000007"+r1+" 00 0001 ;")
	next(t, s, 0, false, 0)
	// A reversal of a purchase that waits lets the issuer decide, and is passed on.
	m := request(r2, 5)
	handle(t, s, 12, "shopbank", m, "homebank 100 000002  0005 ;")
	handle(t, s, 13, "shopbank", reversal(400, "000203000009", r2), "shopbank 410 000009"+r2+" 00 0001 ;")
	handle(t, s, 13, "shopbank", reversal(400, "000203000009", r2), "shopbank 410 000009"+r2+" 00 0001 ;")
	decided(t, s, r2, "", 0)
	poll(t, s, 13, "homebank 420 000009"+r2+"  0001 ;")
	poll(t, s, 42, "shopbank 110 000002 05 0005 ;homebank 420 000002"+r2+"  0005 ;")
	decided(t, s, r2, "05", 4)
	handle(t, s, 43, "homebank", answer(reversal(420, "000203000009", r2), "00"), "")
	poll(t, s, 102, "homebank 420 000002"+r2+"  0005 ;")
	// A stand-in approval that is reversed is given back.
	handle(t, s, 200, "shopbank", request("000203000004", 1000), "homebank 100 000004  1000 ;")
	s.Poll(230)
	handle(t, s, 231, "shopbank", reversal(420, "000203000010", "000203000004"), "shopbank 430 000010000203000004 00 0001 ;")
	for i := range 6 {
		// With the one that was given back, these would be one too many.
		code := "00"
		if i == 5 {
			code = "91"
		}
		ref := plain.Digits(int64(203000020+i), 12)
		at := 300 + 40*i
		if _, e := s.Handle(at, "shopbank", request(ref, 1000)); e != api.OK {
			t.Error(e)
		}
		s.Poll(at + 30)
		decided(t, s, ref, code, 3)
	}
}

func TestTokens(t *testing.T) {
	s := start(t)
	v, _ := token.New("9", 16)
	tok, _ := v.Provision(card, api.Domain{Requestor: "shopbank", Merchant: "m1", Until: 100}, 0)
	s.Vault(v)
	out, e := s.Handle(10, "shopbank", request(r1, 5, "2", tok))
	if len(out) != 1 || value(out[0].Message, 2) != card || e != api.OK {
		t.Error(out, e)
	}
	out, _ = s.Handle(11, "homebank", answer(request(r1, 5), "00"))
	if len(out) != 1 || value(out[0].Message, 2) != tok {
		t.Error(out)
	}
	handle(t, s, 12, "shopbank", with(reversal(420, "000203000009", r1), "2", tok), "shopbank 430 000009"+r1+" 00 0001 ;")
	if out := s.Poll(12); len(out) != 1 || value(out[0].Message, 2) != card {
		t.Error(out)
	}
	handle(t, s, 13, "shopbank", request(r2, 5, "2", tok, "42", "m2"), "shopbank 110 000002 05 0005 ;")
	handle(t, s, 13, "shopbank", request("000203000003", 5, "2", "5000000000000009"), "shopbank 110 000003 14 0005 ;")
	decided(t, s, r2, "05", 4)
	decided(t, s, "000203000003", "14", 4)
	s.Vault(nil)
	handle(t, s, 14, "shopbank", request("000203000004", 5, "2", tok), "shopbank 110 000004 14 0005 ;")
}

func TestNone(t *testing.T) {
	var s *authswitch.Switch
	s.Vault(nil)
	if out, e := s.Handle(0, "a", request(r1, 1)); len(out) != 0 || e != api.ErrNone || len(s.Poll(0)) != 0 {
		t.Error(out, e)
	}
	next(t, s, 0, false, 0)
	decided(t, s, r1, "", 0)
	zero := new(authswitch.Switch)
	zero.Handle(0, "a", request(r1, 1))
	zero.Handle(0, "a", reversal(420, r1, r1))
	zero.Poll(0)
	s = start(t)
	out, _ := s.Handle(0, "a", request(r1, 1))
	out[0].Message.Elements[0].Value = "changed"
	if out, _ = s.Handle(1, "homebank", answer(request(r1, 1), "00")); value(out[0].Message, 2) != card {
		t.Error("shared memory")
	}
}

// TestLateAnswers lets late replies show that a party is not down.
func TestLateAnswers(t *testing.T) {
	s := start(t)
	for i := range 6 {
		ref := plain.Digits(int64(203000030+i), 12)
		m := request(ref, 2000)
		at := 100 * i
		handle(t, s, at, "shopbank", m, "homebank 100 "+ref[6:]+"  2000 ;")
		s.Poll(at + 30)
		decided(t, s, ref, "91", 3)
		// What is late does not decide.
		handle(t, s, at+40, "homebank", answer(m, "00"), "")
		decided(t, s, ref, "91", 3)
	}
	// Replies of a party that was not asked do not count.
	s = start(t)
	for i := range 4 {
		ref := plain.Digits(int64(203000030+i), 12)
		want := "homebank 100 " + ref[6:] + "  2000 ;"
		if i == 3 {
			want = "shopbank 110 " + ref[6:] + " 91 2000 ;"
		}
		handle(t, s, 100*i, "shopbank", request(ref, 2000), want)
		s.Poll(100*i + 30)
		handle(t, s, 100*i+40, "homebank", answer(request("000203000099", 5), "00"), "")
	}
}
