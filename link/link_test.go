package link_test

import (
	"math"
	"slices"
	"strings"
	"testing"

	"cardnet/api"
	"cardnet/link"
)

func fault(kind, a, b, from, until, extra int) api.Fault {
	return api.Fault{Kind: kind, A: a, B: b, From: from, Until: until, Extra: extra}
}

func TestCheck(t *testing.T) {
	for i, c := range []struct {
		parties int
		f       api.Fault
		want    api.Errno
	}{
		{2, fault(1, 0, 1, 0, 0, 0), 0}, {2, fault(2, 0, 1, 0, api.MaxTime, 100000), 0}, {2, fault(4, 1, 0, 5, 6, 0), 0}, {0, fault(1, 0, 1, 0, 0, 0), api.ErrRange}, {17, fault(1, 0, 1, 0, 0, 0), api.ErrRange},
		{2, fault(0, 0, 1, 0, 0, 0), api.ErrRange}, {2, fault(5, 0, 1, 0, 0, 0), api.ErrRange}, {2, fault(1, 0, 2, 0, 0, 0), api.ErrRange}, {2, fault(1, -1, 0, 0, 0, 0), api.ErrRange}, {2, fault(1, 1, 1, 5, 0, 0), api.ErrRange},
		{2, fault(1, 0, 1, 0, 0, 1), api.ErrRange}, {2, fault(4, 0, 1, 0, 0, 1), api.ErrRange}, {2, fault(2, 0, 1, 0, 0, 100001), api.ErrRange}, {2, fault(3, 0, 1, 0, 0, -1), api.ErrRange},
		{2, fault(1, 0, 1, -1, 0, 0), api.ErrTime}, {2, fault(1, 0, 1, 2, 1, 0), api.ErrTime}, {2, fault(1, 0, 1, 2, api.MaxTime+1, 0), api.ErrTime},
	} {
		if e := link.Check(c.parties, c.f); e != c.want {
			t.Error(i, e)
		}
	}
	good := fault(1, 0, 1, 0, 0, 0)
	for i, c := range []struct {
		parties, latency int
		faults           []api.Fault
		want             api.Errno
	}{
		{1, 1, nil, 0}, {16, 1000, slices.Repeat([]api.Fault{good}, 32), 0}, {0, 1, make([]api.Fault, 33), api.ErrRange}, {17, 1, nil, api.ErrRange}, {2, 0, nil, api.ErrRange}, {2, 1001, nil, api.ErrRange},
		{2, 1, make([]api.Fault, 33), api.ErrLong}, {2, 1, []api.Fault{good, fault(1, 0, 1, 2, 1, 0), {}}, api.ErrTime},
	} {
		if l, e := link.New(c.parties, c.latency, c.faults); e != c.want || (l == nil) != (e != api.OK) {
			t.Error(i, e)
		}
	}
}

func texts(l []link.Arrival) string {
	s := ""
	for _, x := range l {
		s += x.Text
	}
	return s
}

func TestDelivery(t *testing.T) {
	l, _ := link.New(2, 5, nil)
	if n, e := l.Send(10, 0, 1, "a"); n != 1 || e != api.OK {
		t.Error(n, e)
	}
	l.Send(10, 1, 0, "b")
	if n, ok := l.Next(); n != 15 || !ok || len(l.Receive(14)) != 0 {
		t.Error(n, ok)
	}
	got := l.Receive(15)
	if !slices.Equal(got, []link.Arrival{{15, 0, 1, 1, "a"}, {15, 1, 0, 2, "b"}}) || len(l.Receive(20)) != 0 || l.Sent() != 2 {
		t.Error(got)
	}
	for i, c := range []struct {
		at, from, to int
		text         string
		want         api.Errno
	}{
		{19, 0, 1, "", api.ErrTime}, {api.MaxTime + 1, 0, 1, "", api.ErrTime}, {19, 0, 2, "", api.ErrRange}, {19, -1, 0, "", api.ErrRange}, {19, 1, 1, "", api.ErrRange}, {19, 0, 1, strings.Repeat("x", 4001), api.ErrLong}, {20, 0, 1, strings.Repeat("x", 4000), 0},
	} {
		if n, e := l.Send(c.at, c.from, c.to, c.text); e != c.want || e != api.OK && n != 0 {
			t.Error(i, n, e)
		}
	}
	if l.Sent() != 3 {
		t.Error(l.Sent())
	}
	l.Receive(0)
	if n, e := l.Send(19, 0, 1, ""); n != 0 || e != api.ErrTime {
		t.Error(n, e)
	}
	l.Receive(math.MaxInt)
	if n, e := l.Send(api.MaxTime, 0, 1, ""); n != 4 || e != api.OK {
		t.Error(n, e)
	}
}

func TestFaults(t *testing.T) {
	l, _ := link.New(3, 5, []api.Fault{fault(api.FRepeat, 0, 1, 0, 1, 2), fault(api.FDelay, 0, 1, 0, 11, 100), fault(api.FRepeat, 0, 1, 0, 1, 0), fault(api.FLose, 0, 1, 20, 30, 0), fault(api.FCut, 2, 1, 5, 6, 0), fault(api.FDelay, 0, 1, 0, 1, 7)})
	l.Send(0, 0, 1, "a")
	want := []link.Arrival{{112, 0, 1, 1, "a"}, {112, 0, 1, 1, "a"}, {114, 0, 1, 1, "a"}}
	if got := l.Receive(1000); !slices.Equal(got, want) {
		t.Error(got)
	}
	l, _ = link.New(3, 5, []api.Fault{fault(api.FDelay, 0, 1, 0, 11, 100), fault(api.FLose, 0, 1, 20, 30, 0), fault(api.FCut, 2, 1, 12, 14, 0)})
	l.Send(10, 0, 1, "a")
	l.Send(10, 1, 0, "b")
	l.Send(11, 0, 1, "c")
	l.Send(12, 1, 2, "lost")
	l.Send(13, 2, 1, "lost")
	l.Send(14, 1, 2, "d")
	l.Send(20, 0, 1, "lost")
	l.Send(20, 1, 0, "e")
	l.Send(30, 0, 1, "f")
	if got := texts(l.Receive(1000)); got != "bcdefa" || l.Sent() != 9 {
		t.Error(got, l.Sent())
	}
	for i, c := range []struct {
		at, a, b int
		want     bool
	}{{11, 1, 2, false}, {12, 1, 2, true}, {13, 2, 1, true}, {14, 1, 2, false}, {12, 0, 1, false}, {20, 0, 1, false}, {12, -1, 7, false}} {
		if l.Cut(c.at, c.a, c.b) != c.want {
			t.Error(i)
		}
	}
}

func TestRoom(t *testing.T) {
	l, _ := link.New(3, 5, []api.Fault{fault(api.FRepeat, 0, 1, 0, 1, 2), fault(api.FLose, 0, 2, 0, 1, 0)})
	for range 127 {
		l.Send(0, 0, 1, "a")
	}
	l.Send(0, 1, 2, "b")
	if n, e := l.Send(0, 0, 1, "a"); n != 0 || e != api.ErrFull || l.Sent() != 128 {
		t.Error(n, e)
	}
	if n, e := l.Send(0, 0, 2, "lost"); n != 129 || e != api.OK {
		t.Error(n, e)
	}
	if n, e := l.Send(0, 1, 0, "c"); n != 130 || e != api.OK {
		t.Error(n, e)
	}
	if n, e := l.Send(9, 1, 0, "c"); n != 0 || e != api.ErrFull {
		t.Error(n, e)
	}
	if _, e := l.Send(0, 0, 2, "lost"); e != api.OK {
		t.Error("the now changed with an error", e)
	}
	if l.Drop(1) != 254 || l.Drop(1) != 0 || l.Drop(-1) != 0 || texts(l.Receive(100)) != "bc" {
		t.Error("Drop")
	}
	if n, ok := l.Next(); n != 0 || ok {
		t.Error(n, ok)
	}
	var none *link.Link
	if n, e := none.Send(0, 0, 1, ""); n != 0 || e != api.ErrNone || len(none.Receive(9)) != 0 || none.Drop(0) != 0 || none.Cut(0, 0, 1) || none.Sent() != 0 {
		t.Error("nil link")
	}
	if n, ok := none.Next(); n != 0 || ok {
		t.Error(n, ok)
	}
}

func TestNow(t *testing.T) {
	l, _ := link.New(3, 5, []api.Fault{fault(api.FCut, 0, 1, 0, 100, 0)})
	l.Send(50, 1, 2, "a")
	if n, e := l.Send(49, 1, 2, "b"); n != 0 || e != api.ErrTime {
		t.Error(n, e)
	}
	l.Send(60, 2, 1, "c")
	l.Send(60, 0, 2, "d")
	l.Send(60, 2, 0, "e")
	if n, ok := l.Next(); n != 55 || !ok {
		t.Error(n, ok)
	}
	if n := l.Drop(2); n != 2 {
		t.Error(n)
	}
	if n, ok := l.Next(); n != 65 || !ok {
		t.Error(n, ok)
	}
	if s := texts(l.Receive(100)); s != "ce" {
		t.Error(s)
	}
	for i, c := range [][2]int{{0, 2}, {2, 0}, {1, 2}, {2, 1}} {
		if l.Cut(50, c[0], c[1]) {
			t.Error(i)
		}
	}
	if !l.Cut(50, 0, 1) || !l.Cut(50, 1, 0) {
		t.Error("Cut")
	}
}

// TestRoomAgain uses the room of what has arrived or was dropped.
func TestRoomAgain(t *testing.T) {
	l, _ := link.New(3, 5, nil)
	for round := range 4 {
		for i := range 256 {
			if _, e := l.Send(round*10, 0, 1+i%2, "a"); e != api.OK {
				t.Fatal(round, i, e)
			}
		}
		if _, e := l.Send(round*10, 0, 1, "a"); e != api.ErrFull {
			t.Error(e)
		}
		if round%2 == 0 {
			l.Receive(round*10 + 5)
		} else if l.Drop(1)+l.Drop(2) != 256 {
			t.Error("Drop")
		}
	}
}
