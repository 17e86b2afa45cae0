package message_test

import (
	"strings"
	"testing"

	"cardnet/api"
	"cardnet/message"
)

func msg(kind int, parts ...any) api.Message {
	m := api.Message{Type: kind}
	for i := 0; i < len(parts); i += 2 {
		m.Elements = append(m.Elements, api.Element{Number: parts[i].(int), Value: parts[i+1].(string)})
	}
	return m
}

var net = msg(800, 11, "000001", 70, "301")

func request() api.Message {
	return msg(100, 2, "4000000000000077", 3, "000000", 4, "000000001000", 7, "0000000000010", 11, "000001", 32, "shopbank", 37, "000203000001", 41, "t1", 42, "m1", 49, "EUR")
}

func TestCheck(t *testing.T) {
	for i, c := range []struct {
		m    api.Message
		want api.Errno
	}{
		{net, 0}, {request(), 0}, {msg(0, 70, "x", 11, "x"), api.ErrRange}, {msg(10000), api.ErrRange}, {msg(-800), api.ErrRange}, {msg(9999), 0},
		{msg(800, 70, "x", 11, "000001"), api.ErrFormat}, {msg(800, 11, "000001", 11, "000001"), api.ErrFormat}, {msg(800, 11, "1", 70, "x"), api.ErrShort},
		{msg(800, 5, "1", 11, "0000001"), api.ErrNone}, {msg(800, 11, "0000001"), api.ErrLong}, {msg(800, 11, "00000a"), api.ErrFormat}, {msg(800, 11, "000001"), api.ErrShort},
		{msg(110, 37, "000203000001", 39, "00"), 0}, {message.Without(request(), 49), api.ErrShort},
	} {
		if e := message.Check(c.m); e != c.want {
			t.Error(i, e)
		}
		if s, e := message.Encode(c.m); e != c.want || e != api.OK && s != "" {
			t.Error(i, s, e)
		}
	}
}

func TestText(t *testing.T) {
	const text = "0800" + "8020000000000000" + "0400000000000000" + "000001" + "301"
	if s, e := message.Encode(net); s != text || e != api.OK {
		t.Error(s, e)
	}
	for _, m := range []api.Message{net, request(), msg(9999), msg(1)} {
		s, _ := message.Encode(m)
		if x, e := message.Decode(s); !message.Same(x, m) || e != api.OK {
			t.Error(s, x, e)
		}
	}
	for s, want := range map[string]api.Errno{
		"": api.ErrShort, "080": api.ErrShort, "08x0": api.ErrFormat, "-800" + text[4:]: api.ErrFormat, "0800": api.ErrShort, "0800802": api.ErrShort,
		strings.ToUpper("0800a") + "020000000000000": api.ErrFormat, text[:20]: api.ErrShort, text[:36]: api.ErrShort, text[:44]: api.ErrShort, text + "x": api.ErrLong,
		strings.Replace(text, "301", "3x1", 1): api.ErrFormat, "0800" + "8800000000000000" + "0400000000000000": api.ErrNone, "0000" + text[4:]: api.ErrRange,
		"08000020000000000000000001": api.ErrShort, "08000020000000000000000001x": api.ErrShort,
	} {
		if m, e := message.Decode(s); m.Type != 0 || len(m.Elements) != 0 || e != want {
			t.Error(s, m, e)
		}
	}
}

func TestElements(t *testing.T) {
	m := msg(800, 11, "a", 11, "b", 4, "000000000012")
	if s, ok := message.Get(m, 11); s != "a" || !ok {
		t.Error(s, ok)
	}
	if s, ok := message.Get(m, 12); s != "" || ok {
		t.Error(s, ok)
	}
	for n, want := range map[int]int64{4: 12, 2: 999999999999999999} {
		x := msg(1, 2, "999999999999999999", 4, "000000000012")
		if v, e := message.Number(x, n); v != want || e != api.OK {
			t.Error(n, v, e)
		}
	}
	for s, want := range map[string]api.Errno{"": api.ErrFormat, "1a": api.ErrFormat, "1000000000000000000": api.ErrFormat, "-1": api.ErrFormat} {
		if v, e := message.Number(msg(1, 4, s), 4); v != 0 || e != want {
			t.Error(s, v, e)
		}
	}
	if v, e := message.Number(m, 5); v != 0 || e != api.ErrNone {
		t.Error(v, e)
	}
}

func TestWithWithout(t *testing.T) {
	before := msg(800, 11, "000001", 70, "301")
	for i, c := range []struct {
		n    int
		v    string
		want api.Message
	}{
		{2, "1", msg(800, 2, "1", 11, "000001", 70, "301")}, {11, "000002", msg(800, 11, "000002", 70, "301")},
		{39, "00", msg(800, 11, "000001", 39, "00", 70, "301")}, {100, "x", msg(800, 11, "000001", 70, "301", 100, "x")},
	} {
		if m, e := message.With(net, c.n, c.v); !message.Same(m, c.want) || e != api.OK {
			t.Error(i, m, e)
		}
	}
	if !message.Same(net, before) {
		t.Error("the argument was changed")
	}
	for n, want := range map[int]api.Errno{5: api.ErrNone, 39: api.ErrLong, 54: api.ErrShort} {
		if m, e := message.With(net, n, "000"); m.Type != 0 || len(m.Elements) != 0 || e != want {
			t.Error(n, m, e)
		}
	}
	if m, e := message.With(msg(5), 39, "00"); !message.Same(m, msg(5, 39, "00")) || e != api.OK {
		t.Error(m, e)
	}
	x := message.Without(net, 5)
	if !message.Same(x, net) || !message.Same(message.Without(net, 70), msg(800, 11, "000001")) || !message.Same(message.Without(msg(-3, 70, "", 2, "x", 70, "y"), 70), msg(-3, 2, "x")) {
		t.Error("Without")
	}
	x.Elements[0].Value = "changed"
	if !message.Same(net, before) {
		t.Error("shared memory")
	}
}

func TestReply(t *testing.T) {
	m, _ := message.With(request(), 18, "5411")
	m, _ = message.With(m, 39, "99")
	m, _ = message.With(m, 100, "x")
	want := msg(110, 2, "4000000000000077", 4, "000000001000", 7, "0000000000010", 11, "000001", 32, "shopbank", 37, "000203000001", 39, "05", 41, "t1", 42, "m1", 49, "EUR", 100, "x")
	if r, e := message.Reply(m, "05"); !message.Same(r, want) || e != api.OK || !message.Answers(m, r) {
		t.Error(r, e)
	}
	if r, e := message.Reply(net, "00"); !message.Same(r, msg(810, 11, "000001", 39, "00", 70, "301")) || e != api.OK {
		t.Error(r, e)
	}
	if r, e := message.Reply(msg(420, 56, "1"), "00"); !message.Same(r, msg(430, 39, "00", 56, "1")) || e != api.OK {
		t.Error(r, e)
	}
	for _, kind := range []int{0, 110, 130, 101, 9999, 10000, -100, -80, 40} {
		if r, e := message.Reply(msg(kind), "x"); r.Type != 0 || e != api.ErrState {
			t.Error(kind, r, e)
		}
	}
	for _, code := range []string{"", "0", "000", "0a", "-1"} {
		if r, e := message.Reply(net, code); r.Type != 0 || e != api.ErrFormat {
			t.Error(code, r, e)
		}
	}
	for _, kind := range []int{20, 9900, 9920} {
		if r, e := message.Reply(msg(kind), "00"); r.Type != kind+10 || e != api.OK {
			t.Error(kind, r, e)
		}
	}
}

func TestAnswersSame(t *testing.T) {
	m := msg(400, 11, "1", 37, "2", 56, "3")
	for i, c := range []struct {
		m, r api.Message
		want bool
	}{
		{m, msg(410, 11, "1", 37, "2", 56, "3"), true}, {m, msg(410, 11, "1", 37, "2"), false}, {m, msg(410, 11, "1", 37, "2", 56, "4"), false}, {m, msg(410, 11, "9", 37, "2", 56, "3"), false},
		{m, msg(410, 11, "1", 37, "9", 56, "3"), false}, {m, msg(420, 11, "1", 37, "2", 56, "3"), false}, {msg(400), msg(410, 37, "x"), true}, {msg(410), msg(420), false}, {msg(-100), msg(-90), false},
	} {
		if message.Answers(c.m, c.r) != c.want {
			t.Error(i)
		}
	}
	if !message.Same(m, msg(400, 11, "1", 37, "2", 56, "3")) || message.Same(m, msg(420, 11, "1", 37, "2", 56, "3")) || message.Same(m, msg(400, 11, "1", 37, "2")) || message.Same(m, msg(400, 11, "1", 37, "2", 56, "4")) || !message.Same(msg(1), api.Message{Type: 1, Elements: []api.Element{}}) {
		t.Error("Same")
	}
}
