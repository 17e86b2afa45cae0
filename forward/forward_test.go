package forward_test

import (
	"slices"
	"strconv"
	"strings"
	"testing"

	"cardnet/api"
	"cardnet/forward"
)

func start(t *testing.T) *forward.Queue {
	q, e := forward.New(10)
	if e != api.OK {
		t.Fatal(e)
	}
	return q
}

func TestNew(t *testing.T) {
	for n, want := range map[int]api.Errno{0: api.ErrRange, 1: 0, 100000: 0, 100001: api.ErrRange, -5: api.ErrRange} {
		if q, e := forward.New(n); e != want || (q == nil) != (e != api.OK) {
			t.Error(n, e)
		}
	}
}

func TestPut(t *testing.T) {
	q := start(t)
	long := strings.Repeat("x", 4001)
	for i, c := range []struct{ got, want api.Errno }{
		{q.Put(5, "k", long[1:]), 0}, {q.Put(-1, "", long), api.ErrName}, {q.Put(0, long[:41], ""), api.ErrName}, {q.Put(-1, "k", long), api.ErrLong}, {q.Put(-1, "k", ""), api.ErrTime}, {q.Put(api.MaxTime+1, "k", ""), api.ErrTime},
		{q.Put(0, "k", ""), api.ErrExists}, {q.Put(0, long[:40], ""), 0},
	} {
		if c.got != c.want {
			t.Error(i, c.got)
		}
	}
	if !q.Known("k") || q.Known("x") || !slices.Equal(q.Waiting(), []string{"k", long[:40]}) {
		t.Error(q.Waiting())
	}
	q = start(t)
	for i := range 256 {
		q.Put(0, strconv.Itoa(i), "")
	}
	if q.Put(0, "x", "") != api.ErrFull || q.Known("x") || q.Put(0, "9", "") != api.ErrExists || q.Ack("9") != api.OK || q.Put(0, "9", "") != api.ErrExists || q.Put(0, "x", "") != api.OK {
		t.Error("room")
	}
}

func TestPoll(t *testing.T) {
	q := start(t)
	q.Put(0, "k", "text")
	q.Put(4, "j", "other")
	poll := func(at int, want ...forward.Item) {
		t.Helper()
		if l := q.Poll(at); !slices.Equal(l, want) {
			t.Error(l)
		}
	}
	next := func(want int, found bool) {
		t.Helper()
		if n, ok := q.Next(); n != want || ok != found {
			t.Error(n, ok)
		}
	}
	next(0, true)
	poll(-1)
	poll(api.MaxTime + 1)
	poll(0, forward.Item{"k", "text", 1})
	next(4, true)
	poll(9, forward.Item{"j", "other", 1})
	poll(10, forward.Item{"k", "text", 2})
	poll(30, forward.Item{"k", "text", 3}, forward.Item{"j", "other", 2})
	for i, c := range []struct{ got, want api.Errno }{{q.Hold("x", -1), api.ErrNone}, {q.Hold("k", -1), api.ErrTime}, {q.Hold("k", api.MaxTime+1), api.ErrTime}, {q.Hold("k", 50), 0}, {q.Hold("j", 5), 0}, {q.Ack("x"), api.ErrNone}} {
		if c.got != c.want {
			t.Error(i, c.got)
		}
	}
	next(40, true)
	poll(40, forward.Item{"j", "other", 3})
	if q.Ack("j") != api.OK || q.Ack("j") != api.ErrNone || q.Hold("j", 60) != api.ErrNone || !q.Known("j") {
		t.Error("Ack")
	}
	next(50, true)
	poll(49)
	poll(50, forward.Item{"k", "text", 4})
	// Times may also descend.
	poll(20)
	q.Ack("k")
	next(0, false)
	poll(1000)
	if q.Put(1000, "k", "") != api.ErrExists || len(q.Waiting()) != 0 {
		t.Error("a key is put once")
	}
}

func TestNone(t *testing.T) {
	var q *forward.Queue
	if q.Put(0, "k", "") != api.ErrNone || q.Ack("k") != api.ErrNone || q.Hold("k", 0) != api.ErrNone || len(q.Poll(0)) != 0 || len(q.Waiting()) != 0 || q.Known("k") {
		t.Error("nil queue")
	}
	if n, ok := q.Next(); n != 0 || ok {
		t.Error(n, ok)
	}
	new(forward.Queue).Put(0, "k", "")
}
