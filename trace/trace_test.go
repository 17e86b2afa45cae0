package trace_test

import (
	"math"
	"strconv"
	"testing"

	"cardnet/api"
	"cardnet/trace"
)

func TestReference(t *testing.T) {
	for s, c := range map[string][3]int{"000203000007": {20, 3, 7}, "999999999999": {99999, 9, 999999}, "000000000001": {0, 0, 1}} {
		if x, e := trace.Reference(c[0], c[1], c[2]); x != s || e != api.OK {
			t.Error(c, x, e)
		}
		if a, b, n, e := trace.Split(s); [3]int{a, b, n} != c || e != api.OK {
			t.Error(s, a, b, n, e)
		}
	}
	for _, c := range [][3]int{{-1, 3, 7}, {100000, 3, 7}, {20, -1, 7}, {20, 10, 7}, {20, 3, 0}, {20, 3, 1000000}, {20, 3, math.MinInt}} {
		if s, e := trace.Reference(c[0], c[1], c[2]); s != "" || e != api.ErrRange {
			t.Error(c, s, e)
		}
	}
	for s, want := range map[string]api.Errno{"": api.ErrFormat, "00020300000": api.ErrFormat, "0002030000071": api.ErrFormat, "00020300000x": api.ErrFormat, "000203000000": api.ErrRange, "-00203000007": api.ErrFormat} {
		if a, b, n, e := trace.Split(s); a != 0 || b != 0 || n != 0 || e != want {
			t.Error(s, a, b, n, e)
		}
	}
}

func TestSource(t *testing.T) {
	s, e := trace.NewSource(3)
	if e != api.OK {
		t.Fatal(e)
	}
	for _, bad := range []int{-1, (api.MaxDate + 1) * 86400, math.MaxInt} {
		if n, ref, e := s.Next(bad); n != 0 || ref != "" || e != api.ErrTime {
			t.Error(n, ref, e)
		}
	}
	for i := 1; i <= 999999; i++ {
		if n, ref, e := s.Next(20*86400 + 5); n != i || e != api.OK || i == 7 && ref != "000203000007" {
			t.Fatal(n, ref, e)
		}
	}
	if n, ref, e := s.Next(0); n != 1 || ref != "000003000001" || e != api.OK {
		t.Error(n, ref, e)
	}
	for _, bad := range []int{-1, 10} {
		if s, e := trace.NewSource(bad); s != nil || e != api.ErrRange {
			t.Error(s, e)
		}
	}
	var none *trace.Source
	if n, ref, e := none.Next(0); n != 0 || ref != "" || e != api.ErrNone {
		t.Error(n, ref, e)
	}
}

func TestKey(t *testing.T) {
	el := func(n int, s string) api.Element { return api.Element{Number: n, Value: s} }
	for i, c := range []struct {
		kind int
		l    []api.Element
		want string
	}{
		{100, []api.Element{el(37, "000203000007")}, "010/000203000007/"}, {110, []api.Element{el(11, "x"), el(37, "000203000007")}, "010/000203000007/"},
		{420, []api.Element{el(37, "r"), el(56, "s")}, "042/r/s"}, {430, []api.Element{el(37, "r"), el(37, "q"), el(56, "s")}, "042/r/s"}, {800, []api.Element{el(11, "000001")}, "080//"[:4] + "000001/"},
		{0, nil, "000//"}, {9999, nil, "998//"}, {10, nil, "000//"}, {129, nil, "012//"}, {100, []api.Element{el(11, "t"), el(37, "")}, "010//"}, {-1, nil, ""}, {10000, nil, ""},
	} {
		if s := trace.Key(api.Message{Type: c.kind, Elements: c.l}); s != c.want {
			t.Error(i, s)
		}
	}
}

func TestWindow(t *testing.T) {
	w, e := trace.NewWindow(10)
	if e != api.OK {
		t.Fatal(e)
	}
	for i, c := range []struct {
		at         int
		value      string
		want       string
		seen       bool
		remembered int
	}{{100, "x", "", false, 1}, {109, "y", "x", true, 1}, {50, "y", "x", true, 1}, {math.MinInt, "y", "x", true, 1}, {110, "y", "", false, 1}, {111, "z", "y", true, 1}, {math.MaxInt, "m", "", false, 1}, {0, "q", "m", true, 1}} {
		if s, ok := w.Seen(c.at, "a", c.value); s != c.want || ok != c.seen || w.Len() != c.remembered {
			t.Error(i, s, ok, w.Len())
		}
	}
	w, _ = trace.NewWindow(10)
	w.Seen(math.MinInt, "a", "x")
	if s, ok := w.Seen(math.MaxInt, "a", "y"); s != "" || ok {
		t.Error(s, ok)
	}
	w, _ = trace.NewWindow(10)
	w.Seen(100, "a", "x")
	w.Seen(105, "b", "y")
	if w.Forget(109) != 0 || w.Forget(110) != 1 || w.Len() != 1 || w.Forget(math.MaxInt) != 1 || w.Len() != 0 {
		t.Error(w.Len())
	}
	for _, bad := range []int{0, -1, api.MaxTime + 1} {
		if w, e := trace.NewWindow(bad); w != nil || e != api.ErrRange {
			t.Error(w, e)
		}
	}
	if _, e := trace.NewWindow(api.MaxTime); e != api.OK {
		t.Error(e)
	}
	var none *trace.Window
	if s, ok := none.Seen(0, "a", "x"); s != "" || ok || none.Forget(0) != 0 || none.Len() != 0 {
		t.Error("nil window")
	}
	new(trace.Window).Seen(0, "a", "x")
}

func TestWindowRoom(t *testing.T) {
	w, _ := trace.NewWindow(1000)
	for i := range 256 {
		w.Seen(i, strconv.Itoa(i), "v")
	}
	// The entry 1 is recorded again later, so that 0 and then 2 are the first ones.
	w.Seen(1001, "1", "w")
	if w.Len() != 256 {
		t.Error(w.Len())
	}
	w.Seen(1002, "x", "v")
	if _, ok := w.Seen(999, "0", "v"); ok || w.Len() != 256 {
		t.Error(ok, w.Len())
	}
	if s, ok := w.Seen(999, "1", "v"); s != "w" || !ok {
		t.Error(s, ok)
	}
	if _, ok := w.Seen(999, "3", "v"); !ok {
		t.Error("the entry 3 was removed")
	}
}

func TestBounds(t *testing.T) {
	for _, sender := range []int{0, 9} {
		s, e := trace.NewSource(sender)
		if _, ref, code := s.Next(0); e != api.OK || code != api.OK || ref != "00000"+strconv.Itoa(sender)+"000001" {
			t.Error(sender, ref, e, code)
		}
	}
	w, e := trace.NewWindow(1)
	if e != api.OK {
		t.Fatal(e)
	}
	w.Seen(5, "a", "x")
	if _, ok := w.Seen(5, "a", "y"); !ok {
		t.Error("an entry of the same time is remembered")
	}
	if _, ok := w.Seen(6, "a", "y"); ok {
		t.Error("after a second it is not")
	}
}
