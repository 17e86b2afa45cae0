package exchange_test

import (
	"math"
	"slices"
	"strconv"
	"strings"
	"testing"

	"cardnet/api"
	"cardnet/exchange"
)

func start(t *testing.T) *exchange.Exchange {
	x, e := exchange.New(30)
	if e != api.OK {
		t.Fatal(e)
	}
	return x
}

func TestNew(t *testing.T) {
	for n, want := range map[int]api.Errno{0: api.ErrRange, 1: 0, 100000: 0, 100001: api.ErrRange, -5: api.ErrRange} {
		if x, e := exchange.New(n); e != want || (x == nil) != (e != api.OK) {
			t.Error(n, e)
		}
	}
}

func TestBegin(t *testing.T) {
	x := start(t)
	long := strings.Repeat("x", 4001)
	for i, c := range []struct{ got, want api.Errno }{
		{x.Begin(10, "a", long[1:]), 0}, {x.Begin(9, "", long), api.ErrTime}, {x.Begin(api.MaxTime+1, "b", ""), api.ErrTime}, {x.Begin(10, "", long), api.ErrName}, {x.Begin(10, long[:41], ""), api.ErrName},
		{x.Begin(10, "a", long), api.ErrLong}, {x.Begin(10, "a", ""), api.ErrExists}, {x.Begin(11, long[:40], ""), 0}, {x.Begin(10, "c", ""), api.ErrTime},
	} {
		if c.got != c.want {
			t.Error(i, c.got)
		}
	}
	if s, ok := x.Request("a"); s != long[1:] || !ok {
		t.Error(ok)
	}
	if s, ok := x.Request("b"); s != "" || ok {
		t.Error(s, ok)
	}
	x = start(t)
	for i := range 256 {
		if e := x.Begin(0, strconv.Itoa(i), ""); e != api.OK {
			t.Fatal(e)
		}
	}
	if x.Begin(0, "x", "") != api.ErrFull || x.Begin(0, "5", "") != api.ErrExists {
		t.Error("room")
	}
	x.Reply(0, "7", "")
	if x.Begin(0, "x", "") != api.OK || len(x.Waiting()) != 256 {
		t.Error("room after a reply")
	}
}

func TestOutcome(t *testing.T) {
	x := start(t)
	x.Begin(10, "a", "buy")
	x.Begin(10, "b", "buy")
	x.Begin(10, "c", "buy")
	x.Begin(12, "d", "buy")
	reply := func(at int, key, text string, want int, code api.Errno) {
		t.Helper()
		if n, e := x.Reply(at, key, text); n != want || e != code {
			t.Error(n, e)
		}
	}
	result := func(key, want string, code api.Errno) {
		t.Helper()
		if s, e := x.Result(key); s != want || e != code {
			t.Error(s, e)
		}
	}
	next := func(want int, code bool) {
		t.Helper()
		if n, ok := x.Next(); n != want || ok != code {
			t.Error(n, ok)
		}
	}
	long := strings.Repeat("x", 4001)
	result("a", "", api.ErrState)
	result("x", "", api.ErrNone)
	reply(5, "x", "", 0, api.ErrNone)
	reply(5, "a", long, 0, api.ErrTime)
	reply(api.MaxTime+1, "a", "", 0, api.ErrTime)
	reply(39, "a", long, 0, api.ErrLong)
	next(40, true)
	reply(39, "a", "yes", 1, 0)
	result("a", "yes", 0)
	reply(39, "a", "no", 3, 0)
	if l := x.Lost(39); len(l) != 0 {
		t.Error(l)
	}
	reply(40, "b", "yes", 2, 0)
	result("b", "", api.ErrTime)
	if !slices.Equal(x.Waiting(), []string{"c", "d"}) {
		t.Error(x.Waiting())
	}
	next(40, true)
	if l := x.Lost(38); len(l) != 0 {
		t.Error(l)
	}
	if l := x.Lost(api.MaxTime + 1); len(l) != 0 {
		t.Error(l)
	}
	if l := x.Lost(40); !slices.Equal(l, []string{"b", "c"}) {
		t.Error(l)
	}
	next(42, true)
	reply(41, "c", "late", 2, 0)
	result("c", "", api.ErrTime)
	reply(50, "a", "no", 3, 0)
	result("a", "yes", 0)
	if l := x.Lost(50); !slices.Equal(l, []string{"d"}) || len(x.Lost(60)) != 0 {
		t.Error(l)
	}
	next(0, false)
	if x.Begin(59, "e", "") != api.ErrTime || x.Begin(60, "b", "") != api.ErrExists || x.Begin(api.MaxTime, "e", "") != api.OK {
		t.Error("Begin")
	}
	next(api.MaxTime+30, true)
}

func TestNone(t *testing.T) {
	var x *exchange.Exchange
	if n, e := x.Reply(0, "a", ""); n != 0 || e != api.ErrNone || x.Begin(0, "a", "") != api.ErrNone || len(x.Lost(5)) != 0 || len(x.Waiting()) != 0 {
		t.Error(n, e)
	}
	if s, e := x.Result("a"); s != "" || e != api.ErrNone {
		t.Error(s, e)
	}
	if s, ok := x.Request("a"); s != "" || ok {
		t.Error(s, ok)
	}
	if n, ok := x.Next(); n != 0 || ok {
		t.Error(n, ok)
	}
	new(exchange.Exchange).Begin(0, "a", "")
	if len(start(t).Lost(math.MinInt)) != 0 {
		t.Error("a time that is none")
	}
}

func TestPresentTime(t *testing.T) {
	x := start(t)
	long := strings.Repeat("x", 4000)
	x.Begin(10, "a", "")
	x.Begin(20, "b", "")
	if n, e := x.Reply(25, "a", long); n != 1 || e != api.OK {
		t.Error(n, e)
	}
	if s, e := x.Result("a"); s != long || e != api.OK {
		t.Error(len(s), e)
	}
	if n, ok := x.Next(); n != 50 || !ok {
		t.Error("an answered request has no deadline", n, ok)
	}
	if x.Begin(24, "c", "") != api.ErrTime || len(x.Lost(24)) != 0 {
		t.Error("Reply sets the present time")
	}
	// What is late and then reported is lost once.
	if n, e := x.Reply(60, "b", "late"); n != 2 || e != api.OK {
		t.Error(n, e)
	}
	x.Begin(61, "d", "")
	if n, ok := x.Next(); n != 50 || !ok || !slices.Equal(x.Waiting(), []string{"d"}) {
		t.Error(n, ok, x.Waiting())
	}
	if l := x.Lost(62); !slices.Equal(l, []string{"b"}) {
		t.Error(l)
	}
	if n, e := x.Reply(63, "b", "again"); n != 2 || e != api.OK || len(x.Lost(63)) != 0 {
		t.Error(n, e)
	}
}
