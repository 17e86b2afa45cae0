package velocity_test

import (
	"math"
	"strings"
	"testing"

	"cardnet/api"
	"cardnet/velocity"
)

func start(t *testing.T) *velocity.Windows {
	w, e := velocity.New(100)
	if e != api.OK {
		t.Fatal(e)
	}
	return w
}

func TestNew(t *testing.T) {
	for n, want := range map[int]api.Errno{0: api.ErrRange, 1: 0, 10000000: 0, 10000001: api.ErrRange, -1: api.ErrRange} {
		if w, e := velocity.New(n); e != want || (w == nil) != (e != api.OK) {
			t.Error(n, e)
		}
	}
}

func TestWindows(t *testing.T) {
	w := start(t)
	w.Add("k", 10, 5)
	w.Add("k", 20, 7)
	w.Add("j", 20, 9)
	for i, c := range []struct {
		key        string
		at, window int
		count      int
		sum        int64
	}{
		{"k", 20, 10, 1, 7}, {"k", 20, 11, 2, 12}, {"k", 29, 10, 1, 7}, {"k", 30, 10, 0, 0}, {"k", 19, 100, 1, 5}, {"k", 9, 100, 0, 0}, {"j", 20, 1, 1, 9}, {"j", 21, 1, 0, 0}, {"x", 20, 100, 0, 0}, {"", 20, 100, 0, 0},
		{"k", 20, 0, 0, 0}, {"k", 20, 101, 0, 0}, {"k", 20, -1, 0, 0}, {"k", -1, 100, 0, 0}, {"k", api.MaxTime + 1, 100, 0, 0}, {"k", 20, math.MinInt, 0, 0}, {"k", 20, 100, 2, 12},
	} {
		if n, s := w.Count(c.key, c.at, c.window), w.Sum(c.key, c.at, c.window); n != c.count || s != c.sum {
			t.Error(i, n, s)
		}
	}
	if n, ok := w.Last("k"); n != 20 || !ok {
		t.Error(n, ok)
	}
	if n, ok := w.Last("x"); n != 0 || ok {
		t.Error(n, ok)
	}
	if w.Forget(-1) != 0 || w.Forget(api.MaxTime+1) != 0 || w.Forget(109) != 0 || w.Forget(110) != 1 || w.Len() != 2 || w.Count("k", 20, 100) != 1 {
		t.Error(w.Len())
	}
}

func TestAddRemove(t *testing.T) {
	w := start(t)
	long := strings.Repeat("x", 41)
	w.Add("k", 10, 5)
	for i, c := range []struct{ got, want api.Errno }{
		{w.Add("", -1, -1), api.ErrName}, {w.Add(long, 20, 0), api.ErrName}, {w.Add("k", 9, -1), api.ErrTime}, {w.Add("k", -1, 0), api.ErrTime}, {w.Add("k", api.MaxTime+1, 0), api.ErrTime}, {w.Add("k", 110, -1), api.ErrRange}, {w.Add("k", 110, api.MaxAmount+1), api.ErrRange},
		{w.Add(long[1:], 10, api.MaxAmount), 0}, {w.Remove("k", 10, 6), api.ErrNone}, {w.Remove("k", 11, 5), api.ErrNone}, {w.Remove("j", 10, 5), api.ErrNone}, {w.Remove("k", 10, 5), 0}, {w.Remove("k", 10, 5), api.ErrNone}, {w.Add("k", 9, 0), api.ErrTime},
	} {
		if c.got != c.want {
			t.Error(i, c.got)
		}
	}
	if w.Len() != 1 {
		t.Error(w.Len())
	}
	// The last time remains although its use was taken back.
	w.Add("k", 50, 1)
	w.Remove("k", 50, 1)
	if w.Add("k", 49, 1) != api.ErrTime || w.Add("k", 50, 1) != api.OK || w.Len() != 2 {
		t.Error(w.Len())
	}
	if w.Add("k", 110, 1) != api.OK || w.Len() != 2 {
		t.Error("what is too old is forgotten", w.Len())
	}
}

func TestRoom(t *testing.T) {
	w := start(t)
	for i := range 1000 {
		if e := w.Add("k", i/500, 1); e != api.OK {
			t.Fatal(i, e)
		}
	}
	if w.Add("k", 99, 1) != api.ErrFull || w.Len() != 1000 || w.Add("k", 100, 1) != api.OK || w.Len() != 501 || w.Count("k", 100, 100) != 501 {
		t.Error(w.Len())
	}
	var none *velocity.Windows
	if none.Add("k", 1, 1) != api.ErrNone || none.Remove("k", 1, 1) != api.ErrNone || none.Count("k", 1, 1) != 0 || none.Sum("k", 1, 1) != 0 || none.Forget(1) != 0 || none.Len() != 0 {
		t.Error("nil windows")
	}
	if n, ok := none.Last("k"); n != 0 || ok {
		t.Error(n, ok)
	}
	new(velocity.Windows).Add("k", 1, 1)
}
