package timer_test

import (
	"math"
	"slices"
	"strconv"
	"testing"

	"cardnet/api"
	"cardnet/timer"
)

func TestOrder(t *testing.T) {
	x := timer.New()
	x.Set("a", 10)
	x.Set("b", 5)
	x.Set("c", 10)
	if n, ok := x.Next(); n != 5 || !ok || x.Len() != 3 {
		t.Error(n, ok)
	}
	if l := x.Due(4); len(l) != 0 || x.Now() != 4 {
		t.Error(l, x.Now())
	}
	if l := x.Due(10); !slices.Equal(l, []string{"b", "a", "c"}) || x.Now() != 10 || x.Len() != 0 {
		t.Error(l)
	}
	if x.Set("d", 9) != api.ErrTime || len(x.Due(10)) != 0 {
		t.Error("the past")
	}
	x = timer.New()
	x.Set("a", 10)
	x.Set("b", 5)
	x.Set("c", 10)
	if x.Move("a", 10) != api.OK || !slices.Equal(x.Due(10), []string{"b", "c", "a"}) {
		t.Error("Move")
	}
}

func TestErrors(t *testing.T) {
	x := timer.New()
	x.Due(7)
	x.Set("a", 10)
	for i, c := range []struct{ got, want api.Errno }{
		{x.Set("", -1), api.ErrName}, {x.Set("a b", 8), api.ErrName}, {x.Set("a", 6), api.ErrTime}, {x.Set("a", api.MaxTime+1), api.ErrTime}, {x.Set("a", 8), api.ErrExists}, {x.Set("z", 7), 0}, {x.Set("y", api.MaxTime), 0},
		{x.Move("x", 1), api.ErrNone}, {x.Move("a", 6), api.ErrTime}, {x.Move("a", api.MaxTime+1), api.ErrTime}, {x.Move("", 9), api.ErrNone}, {x.Cancel("x"), api.ErrNone}, {x.Cancel("z"), 0}, {x.Cancel("z"), api.ErrNone},
	} {
		if c.got != c.want {
			t.Error(i, c.got)
		}
	}
	if n, ok := x.At("a"); n != 10 || !ok {
		t.Error(n, ok)
	}
	if n, ok := x.At("z"); n != 0 || ok {
		t.Error(n, ok)
	}
	if l := x.Due(6); len(l) != 0 || x.Now() != 7 {
		t.Error(l, x.Now())
	}
	if l := x.Due(math.MaxInt); !slices.Equal(l, []string{"a", "y"}) || x.Now() != api.MaxTime {
		t.Error(l, x.Now())
	}
	if n, ok := x.Next(); n != 0 || ok {
		t.Error(n, ok)
	}
	if len(x.Due(api.MaxTime)) != 0 || x.Set("q", api.MaxTime) != api.OK || len(x.Due(api.MaxTime)) != 1 {
		t.Error("the last time")
	}
}

func TestRoom(t *testing.T) {
	x := timer.New()
	for i := range 256 {
		if e := x.Set("t"+strconv.Itoa(i), 256-i); e != api.OK {
			t.Fatal(e)
		}
	}
	if x.Set("q", 0) != api.ErrFull || x.Set("t0", 0) != api.ErrExists || x.Move("t0", 0) != api.OK || x.Due(0)[0] != "t0" || x.Set("q", 0) != api.OK {
		t.Error("room")
	}
	var none *timer.Timers
	if none.Set("a", 1) != api.ErrNone || none.Move("a", 1) != api.ErrNone || none.Cancel("a") != api.ErrNone || len(none.Due(5)) != 0 || none.Now() != 0 || none.Len() != 0 {
		t.Error("nil timers")
	}
	if n, ok := none.Next(); n != 0 || ok {
		t.Error(n, ok)
	}
}
