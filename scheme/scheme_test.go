package scheme_test

import (
	"math"
	"slices"
	"testing"

	"cardnet/api"
	"cardnet/scheme"
)

var tiers = []scheme.Tier{{1, 50}, {101, 30}}

func TestCheck(t *testing.T) {
	var many []scheme.Tier
	for i := range 65 {
		many = append(many, scheme.Tier{int64(i + 1), 0})
	}
	for i, c := range []struct {
		l    []scheme.Tier
		want api.Errno
	}{
		{tiers, 0}, {nil, api.ErrShort}, {many, api.ErrLong}, {many[:64], 0}, {many[1:], api.ErrRange}, {[]scheme.Tier{{1, 5}, {1, 5}}, api.ErrRange}, {[]scheme.Tier{{1, 5}, {3, 5}, {2, 5}}, api.ErrRange}, {[]scheme.Tier{{1, -1}}, api.ErrRange}, {[]scheme.Tier{{1, 1000000001}}, api.ErrRange}, {[]scheme.Tier{{1, 1000000000}, {math.MaxInt64, 0}}, 0}, {[]scheme.Tier{{0, 5}}, api.ErrRange},
	} {
		if e := scheme.Check(c.l); e != c.want {
			t.Error(i, e)
		}
		if c.want == api.OK {
			continue
		}
		_, e1 := scheme.Marginal(c.l, 0)
		_, e2 := scheme.Fee(c.l, -1)
		_, e3 := scheme.Share(c.l, make([]scheme.Volume, 17))
		_, e4 := scheme.Saved(c.l, make([]scheme.Volume, 17))
		if e1 != c.want || e2 != c.want || e3 != c.want || e4 != c.want {
			t.Error(i, e1, e2, e3, e4)
		}
	}
}

func TestFee(t *testing.T) {
	for n, want := range map[int64]int64{1: 50, 100: 50, 101: 30, 1000000000: 30} {
		if p, e := scheme.Marginal(tiers, n); p != want || e != api.OK {
			t.Error(n, p, e)
		}
	}
	for _, n := range []int64{0, -1, 1000000001, math.MinInt64} {
		if p, e := scheme.Marginal(tiers, n); p != 0 || e != api.ErrRange {
			t.Error(n, p, e)
		}
	}
	for n, want := range map[int64]int64{0: 0, 1: 1, 2: 1, 3: 2, 100: 50, 101: 50, 102: 51, 150: 65, 1000000000: 300000020} {
		if f, e := scheme.Fee(tiers, n); f != want || e != api.OK {
			t.Error(n, f, e)
		}
	}
	for _, n := range []int64{-1, 1000000001, math.MaxInt64} {
		if f, e := scheme.Fee(tiers, n); f != 0 || e != api.ErrRange {
			t.Error(n, f, e)
		}
	}
	high := []scheme.Tier{{1, 1000000000}}
	if f, e := scheme.Fee(high, 450359962); f != 4503599620000000 || e != api.OK {
		t.Error(f, e)
	}
	for _, n := range []int64{450359963, 1000000000} {
		if f, e := scheme.Fee(high, n); f != 0 || e != api.ErrRange {
			t.Error(n, f, e)
		}
	}
	top := []scheme.Tier{{1, 536870912}}
	if f, e := scheme.Fee(top, 838860800); f != api.MaxTotal || e != api.OK {
		t.Error(f, e)
	}
	if f, e := scheme.Fee(top, 838860801); f != 0 || e != api.ErrRange {
		t.Error(f, e)
	}
	if f, e := scheme.Fee([]scheme.Tier{{1, 49}}, 1); f != 0 || e != api.OK {
		t.Error(f, e)
	}
}

func TestShare(t *testing.T) {
	v := []scheme.Volume{{"a", 100}, {"b", 50}}
	if l, e := scheme.Share(tiers, v); !slices.Equal(l, []int64{43, 22}) || e != api.OK {
		t.Error(l, e)
	}
	if n, e := scheme.Saved(tiers, v); n != 10 || e != api.OK {
		t.Error(n, e)
	}
	if n, e := scheme.Saved([]scheme.Tier{{1, 30}, {101, 50}}, v); n != -10 || e != api.OK {
		t.Error(n, e)
	}
	for i, v := range [][]scheme.Volume{nil, {{"a", 0}}, {{"a", 0}, {"b", 0}}} {
		if l, e := scheme.Share(tiers, v); !slices.Equal(l, make([]int64, len(v))) || e != api.OK {
			t.Error(i, l, e)
		}
		if n, e := scheme.Saved(tiers, v); n != 0 || e != api.OK {
			t.Error(i, n, e)
		}
	}
	for i, c := range []struct {
		l    []scheme.Tier
		v    []scheme.Volume
		want api.Errno
	}{
		{tiers, make([]scheme.Volume, 17), api.ErrLong}, {tiers, []scheme.Volume{{"a", 1}, {"a-b", -1}}, api.ErrName}, {tiers, []scheme.Volume{{"a", 1}, {"a", -1}}, api.ErrExists}, {tiers, []scheme.Volume{{"a", -1}, {"a", 1}}, api.ErrRange}, {tiers, []scheme.Volume{{"a", 1000000001}}, api.ErrRange}, {tiers, []scheme.Volume{{"a", 1000000000}, {"b", 1}}, api.ErrRange}, {[]scheme.Tier{{1, 1000000000}}, []scheme.Volume{{"a", 1000000000}}, api.ErrRange},
	} {
		l, e1 := scheme.Share(c.l, c.v)
		n, e2 := scheme.Saved(c.l, c.v)
		if len(l) != 0 || n != 0 || e1 != c.want || e2 != c.want {
			t.Error(i, l, n, e1, e2)
		}
	}
}

func TestBounds(t *testing.T) {
	var v []scheme.Volume
	for i := range 16 {
		v = append(v, scheme.Volume{Party: "p" + string(rune('a'+i)), Count: 0})
	}
	v[7].Count = 1000000000
	l, e := scheme.Share(tiers, v)
	if len(l) != 16 || l[7] != 300000020 || l[0] != 0 || e != api.OK {
		t.Error(l, e)
	}
	v[7].Count = 1000000001
	if l, e := scheme.Share(tiers, v); len(l) != 0 || e != api.ErrRange {
		t.Error(l, e)
	}
	v[7].Count, v[8].Party = -1, "pa"
	if l, e := scheme.Share(tiers, v); len(l) != 0 || e != api.ErrRange {
		t.Error(l, e)
	}
}
