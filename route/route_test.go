package route_test

import (
	"slices"
	"testing"

	"cardnet/api"
	"cardnet/route"
)

var ranges = []api.Range{{Low: "400000", High: "400999", Issuer: "homebank", Product: "gold"}, {Low: "5", High: "5", Issuer: "other", Product: "x"}}
var backups = []route.Backup{{"homebank", "helper"}, {"homebank", "second"}, {"other", "homebank"}}

const card = "4000000000000077"

func router(t *testing.T) *route.Router {
	r, e := route.New(ranges, backups, 2)
	if e != api.OK {
		t.Fatal(e)
	}
	return r
}

func TestNew(t *testing.T) {
	for i, c := range []struct {
		l        []api.Range
		b        []route.Backup
		failures int
		want     api.Errno
	}{
		{ranges, backups, 1, 0}, {nil, nil, 100, 0}, {[]api.Range{{}}, []route.Backup{{}}, 0, api.ErrFormat}, {ranges, []route.Backup{{"-", "a"}}, 0, api.ErrName}, {ranges, []route.Backup{{"homebank", ""}}, 0, api.ErrName},
		{ranges, []route.Backup{{"none", "none"}}, 0, api.ErrNone}, {ranges, []route.Backup{{"homebank", "homebank"}}, 1, api.ErrRange}, {ranges, []route.Backup{backups[0], backups[1], backups[0]}, 0, api.ErrExists},
		{ranges, backups, 0, api.ErrRange}, {ranges, backups, 101, api.ErrRange},
	} {
		if r, e := route.New(c.l, c.b, c.failures); e != c.want || (r == nil) != (e != api.OK) {
			t.Error(i, e)
		}
	}
	if l := router(t).Parties(); !slices.Equal(l, []string{"helper", "homebank", "other", "second"}) {
		t.Error(l)
	}
}

func choice(party string, mode int) route.Choice {
	return route.Choice{"homebank", "gold", party, mode}
}

func TestSequence(t *testing.T) {
	r := router(t)
	c, e := r.Choose(card)
	for i, want := range []route.Choice{choice("homebank", 1), choice("helper", 2), choice("second", 2), choice("", 3)} {
		if c != want || e != api.OK {
			t.Error(i, c, e)
		}
		c, e = r.After(c)
	}
	if c != (route.Choice{}) || e != api.ErrNone {
		t.Error(c, e)
	}
	for i, c := range []route.Choice{choice("helper", 1), choice("none", 2), choice("homebank", 2), choice("helper", 3), choice("homebank", 0), {"helper", "gold", "helper", 1}, {"other", "x", "helper", 2}, {}} {
		if x, e := r.After(c); x != (route.Choice{}) || e != api.ErrNone {
			t.Error(i, x, e)
		}
	}
	if x, e := r.After(route.Choice{"other", "kept", "other", 1}); x != (route.Choice{"other", "kept", "homebank", 2}) || e != api.OK {
		t.Error(x, e)
	}
	for s, want := range map[string]api.Errno{"400000000000007": api.ErrChecksum, "": api.ErrShort, "6000000000000007": api.ErrRoute} {
		if x, e := r.Choose(s); x != (route.Choice{}) || e != want {
			t.Error(s, x, e)
		}
	}
}

func TestFailures(t *testing.T) {
	r := router(t)
	first := func(want route.Choice) {
		t.Helper()
		if c, e := r.Choose(card); c != want || e != api.OK {
			t.Error(c, e)
		}
	}
	r.Fail("homebank")
	first(choice("homebank", 1))
	if r.Down("homebank") || r.Fail("homebank") != api.OK || !r.Down("homebank") {
		t.Error("two failures")
	}
	first(choice("helper", 2))
	r.Fail("helper")
	r.Good("helper")
	r.Fail("helper")
	first(choice("helper", 2))
	r.Fail("helper")
	first(choice("second", 2))
	if c, e := r.After(choice("homebank", 1)); c != choice("second", 2) || e != api.OK {
		t.Error(c, e)
	}
	r.Fail("second")
	r.Fail("second")
	first(choice("", 3))
	if c, e := r.After(choice("helper", 2)); c != choice("", 3) || e != api.OK {
		t.Error(c, e)
	}
	if r.Fail("none") != api.ErrNone || r.Good("none") != api.ErrNone || r.Down("none") || r.Fail("") != api.ErrNone {
		t.Error("no party")
	}
	for _, p := range r.Parties() {
		r.Good(p)
	}
	first(choice("homebank", 1))
	// A backup that comes earlier is not returned after a later one.
	r.Fail("second")
	r.Fail("second")
	if c, _ := r.After(choice("second", 2)); c != choice("", 3) {
		t.Error(c)
	}
}

func TestNone(t *testing.T) {
	var r *route.Router
	c, e := r.Choose(card)
	d, f := r.After(choice("homebank", 1))
	if c != (route.Choice{}) || d != c || e != api.ErrNone || f != e || r.Fail("a") != e || r.Good("a") != e || r.Down("a") || len(r.Parties()) != 0 {
		t.Error(c, e)
	}
	new(route.Router).Fail("a")
}
