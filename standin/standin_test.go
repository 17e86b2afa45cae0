package standin_test

import (
	"math"
	"slices"
	"strconv"
	"strings"
	"testing"

	"cardnet/api"
	"cardnet/standin"
)

const card, other = "4000000000000077", "4000000000000002"

func start(t *testing.T, l ...standin.Limit) *standin.StandIn {
	s, e := standin.New(l)
	if e != api.OK {
		t.Fatal(e)
	}
	return s
}

var home = standin.Limit{"homebank", 100, 250, 3}

func TestNew(t *testing.T) {
	for i, c := range []struct {
		l    []standin.Limit
		want api.Errno
	}{
		{nil, 0}, {[]standin.Limit{home, {"b", api.MaxAmount, api.MaxAmount, 1000}, {"c", 0, 0, 0}}, 0}, {[]standin.Limit{{"a-b", -1, 0, 0}}, api.ErrName}, {[]standin.Limit{home, {"homebank", -1, 0, 0}}, api.ErrExists}, {[]standin.Limit{{"a", -1, 0, 0}, {}}, api.ErrRange},
		{[]standin.Limit{{"a", api.MaxAmount + 1, 0, 0}}, api.ErrRange}, {[]standin.Limit{{"a", 0, -1, 0}}, api.ErrRange}, {[]standin.Limit{{"a", 0, api.MaxAmount + 1, 0}}, api.ErrRange}, {[]standin.Limit{{"a", 0, 0, -1}}, api.ErrRange}, {[]standin.Limit{{"a", 0, 0, 1001}}, api.ErrRange},
	} {
		if s, e := standin.New(c.l); e != c.want || (s == nil) != (e != api.OK) {
			t.Error(i, e)
		}
	}
}

func TestDecide(t *testing.T) {
	s := start(t, home)
	decide := func(at int, key, issuer, card string, amount int64, want bool) {
		t.Helper()
		if ok, e := s.Decide(at, key, issuer, card, amount); ok != want || e != api.OK {
			t.Error(ok, e)
		}
	}
	decide(5, "a", "homebank", card, 100, true)
	decide(6, "b", "homebank", card, 100, true)
	decide(7, "c", "homebank", card, 100, false)
	decide(8, "d", "homebank", card, 50, true)
	if n, k := s.Used(card, 0); n != 250 || k != 3 {
		t.Error(n, k)
	}
	decide(9, "e", "homebank", card, 1, false)
	decide(9, "f", "homebank", card, 101, false)
	decide(9, "g", "homebank", other, 101, false)
	decide(9, "h", "homebank", other, 100, true)
	decide(9, "i", "none", other, 1, false)
	decide(86400, "j", "homebank", card, 100, true)
	decide(86400*9, "a", "x", other, 99999, true)
	decide(5, "c", "homebank", other, 1, false)
	if len(s.Waiting("homebank")) != 5 || len(s.Waiting("none")) != 0 {
		t.Error(s.Waiting("homebank"), s.Waiting("none"))
	}
	for i, c := range []struct {
		at     int
		key    string
		card   string
		amount int64
		want   api.Errno
	}{
		{-1, "", "", 0, api.ErrTime}, {math.MaxInt, "k", card, 1, api.ErrTime}, {0, "", "", 0, api.ErrName}, {0, strings.Repeat("x", 41), card, 1, api.ErrName}, {0, "a", "", 0, api.ErrCard}, {0, "a", card, 0, api.ErrRange}, {0, "k", card, api.MaxAmount + 1, api.ErrRange},
	} {
		if ok, e := s.Decide(c.at, c.key, "homebank", c.card, c.amount); ok || e != c.want {
			t.Error(i, ok, e)
		}
	}
}

func TestAdvices(t *testing.T) {
	s := start(t, home)
	for i, key := range []string{"a", "b", "d"} {
		s.Decide(5, key, "homebank", card, 100-int64(i)*25)
	}
	s.Decide(5, "c", "homebank", card, 101)
	keys := func() string {
		x := ""
		for _, a := range s.Waiting("homebank") {
			x += a.Key
		}
		return x
	}
	if keys() != "abd" || s.Waiting("homebank")[2] != (standin.Advice{"d", "homebank", card, 50, 5}) {
		t.Error(s.Waiting("homebank"))
	}
	for i, c := range []struct {
		got  api.Errno
		want api.Errno
	}{{s.Ack("a"), 0}, {s.Ack("a"), api.ErrNone}, {s.Reverse("b"), 0}, {s.Reverse("b"), api.ErrState}, {s.Ack("b"), api.ErrNone}, {s.Reverse("c"), api.ErrState}, {s.Reverse("x"), api.ErrNone}, {s.Ack("c"), api.ErrNone}} {
		if c.got != c.want {
			t.Error(i, c.got)
		}
	}
	if n, k := s.Used(card, 0); keys() != "d" || n != 150 || k != 2 {
		t.Error(keys(), n, k)
	}
	if s.Reverse("a") != api.OK || s.Ack("a") != api.ErrNone {
		t.Error("an acknowledged approval is reversed")
	}
	for key, want := range map[string][2]bool{"a": {true, true}, "b": {true, true}, "c": {false, true}, "x": {}} {
		if ok, known := s.Decision(key); ok != want[0] || known != want[1] {
			t.Error(key, ok, known)
		}
	}
	// A reversed approval is repeated as an approval, and uses nothing.
	if ok, e := s.Decide(5, "b", "homebank", card, 1); !ok || e != api.OK {
		t.Error(ok, e)
	}
	if n, k := s.Used(card, 0); n != 50 || k != 1 {
		t.Error(n, k)
	}
	for _, date := range []int{-1, 1, math.MaxInt} {
		if n, k := s.Used(card, date); n != 0 || k != 0 {
			t.Error(n, k)
		}
	}
}

func TestRoom(t *testing.T) {
	s := start(t, home, standin.Limit{"b", api.MaxAmount, api.MaxAmount, 1000})
	for i := range 256 {
		if ok, e := s.Decide(0, strconv.Itoa(i), "b", card, 1); !ok || e != api.OK {
			t.Fatal(i, ok, e)
		}
	}
	if ok, e := s.Decide(0, "x", "b", card, 1); ok || e != api.ErrFull {
		t.Error(ok, e)
	}
	if ok, e := s.Decide(0, "7", "b", card, 1); !ok || e != api.OK {
		t.Error(ok, e)
	}
	// What another issuer's limit has approved counts, too.
	s = start(t, home, standin.Limit{"b", 1000, 1000, 9})
	s.Decide(0, "x", "b", card, 200)
	if ok, _ := s.Decide(0, "y", "homebank", card, 51); ok {
		t.Error("more than the day permits")
	}
	if l := s.Waiting("b"); !slices.Equal(l, []standin.Advice{{"x", "b", card, 200, 0}}) {
		t.Error(l)
	}
	var none *standin.StandIn
	ok, e := none.Decide(0, "x", "b", card, 1)
	if n, k := none.Used(card, 0); ok || e != api.ErrNone || none.Reverse("x") != e || none.Ack("x") != e || len(none.Waiting("b")) != 0 || n != 0 || k != 0 {
		t.Error("nil stand-in")
	}
	if ok, known := none.Decision("x"); ok || known {
		t.Error(ok, known)
	}
	new(standin.StandIn).Decide(0, "x", "b", card, 1)
}

func TestBounds(t *testing.T) {
	s := start(t, standin.Limit{Issuer: "b", Each: api.MaxAmount, Day: api.MaxAmount, Count: 2})
	key := strings.Repeat("k", 40)
	for i, want := range []bool{true, true, false} {
		if ok, e := s.Decide(5, key[i:], "b", card, 1); ok != want || e != api.OK {
			t.Error(i, ok, e)
		}
	}
	if ok, e := s.Decide(5, "other", "b", other, api.MaxAmount); !ok || e != api.OK {
		t.Error(ok, e)
	}
}
