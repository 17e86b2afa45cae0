package netting_test

import (
	"math"
	"slices"
	"strconv"
	"testing"

	"cardnet/api"
	"cardnet/netting"
)

func pos(party string, n int64, currency string) api.Position {
	return api.Position{Party: party, Net: api.Money{Amount: n, Currency: currency}}
}

func pay(from, to string, n int64, currency string) api.Transfer {
	return api.Transfer{From: from, To: to, Amount: api.Money{Amount: n, Currency: currency}}
}

func TestCheck(t *testing.T) {
	var many []api.Position
	for i := range 513 {
		many = append(many, pos("p"+strconv.Itoa(i), 0, "EUR"))
	}
	for i, c := range []struct {
		l    []api.Position
		want api.Errno
	}{
		{nil, 0}, {many[:512], 0}, {many, api.ErrLong}, {[]api.Position{pos("a-b", 1, "x")}, api.ErrName}, {[]api.Position{pos("a", 1, "x")}, api.ErrCurrency}, {[]api.Position{pos("a", api.MaxTotal+1, "EUR")}, api.ErrRange}, {[]api.Position{pos("a", math.MinInt64, "EUR")}, api.ErrRange},
		{[]api.Position{pos("a", 1, "EUR"), pos("a", -1, "EUR"), pos("", 0, "")}, api.ErrExists}, {[]api.Position{pos("a", 1, "EUR"), pos("a", -1, "USD")}, api.ErrBalance}, {[]api.Position{pos("a", 1, "EUR"), pos("b", -1, "EUR"), pos("a", 0, "USD")}, 0}, {[]api.Position{pos("a", 1, "EUR"), pos("a", 1, "USD"), pos("a-", 1, "USD")}, api.ErrName},
	} {
		if e := netting.Check(c.l); e != c.want {
			t.Error(i, e)
		}
		if x, e := netting.Settle(c.l); e != c.want || len(x) != 0 && e != api.OK {
			t.Error(i, x, e)
		}
		if netting.Valid(c.l, nil) && c.want != api.OK {
			t.Error(i)
		}
	}
}

func TestSettle(t *testing.T) {
	for i, c := range []struct {
		l    []api.Position
		want []api.Transfer
	}{
		{[]api.Position{pos("b", 70, "EUR"), pos("c", 30, "EUR"), pos("a", -100, "EUR")}, []api.Transfer{pay("a", "b", 70, "EUR"), pay("a", "c", 30, "EUR")}},
		{[]api.Position{pos("d", 40, "EUR"), pos("b", -50, "EUR"), pos("c", 60, "EUR"), pos("a", -50, "EUR")}, []api.Transfer{pay("a", "c", 50, "EUR"), pay("b", "d", 40, "EUR"), pay("b", "c", 10, "EUR")}},
		{[]api.Position{pos("z", 5, "USD"), pos("b", -5, "EUR"), pos("y", -5, "USD"), pos("a", 5, "EUR"), pos("x", 0, "EUR"), pos("q", 0, "GBP")}, []api.Transfer{pay("b", "a", 5, "EUR"), pay("y", "z", 5, "USD")}},
		{[]api.Position{pos("a", 5, "EUR"), pos("b", 5, "EUR"), pos("c", -10, "EUR")}, []api.Transfer{pay("c", "a", 5, "EUR"), pay("c", "b", 5, "EUR")}},
		{[]api.Position{pos("a", 0, "EUR")}, nil},
	} {
		given := slices.Clone(c.l)
		x, e := netting.Settle(c.l)
		if !slices.Equal(x, c.want) || e != api.OK || !netting.Valid(c.l, x) || !slices.Equal(given, c.l) {
			t.Error(i, x, e)
		}
		slices.Reverse(given)
		if y, _ := netting.Settle(given); !slices.Equal(x, y) {
			t.Error(i, y)
		}
	}
}

func TestApply(t *testing.T) {
	for i, c := range []struct {
		l    []api.Position
		t    []api.Transfer
		want []api.Position
		e    api.Errno
	}{
		{nil, []api.Transfer{pay("a", "b", 5, "EUR")}, []api.Position{pos("a", 5, "EUR"), pos("b", -5, "EUR")}, 0}, {[]api.Position{pos("b", 3, "EUR"), pos("a", 1, "USD")}, []api.Transfer{pay("a", "b", 3, "EUR"), pay("c", "b", -2, "EUR")}, []api.Position{pos("a", 3, "EUR"), pos("b", 2, "EUR"), pos("c", -2, "EUR"), pos("a", 1, "USD")}, 0},
		{[]api.Position{pos("a", 1, "EUR"), pos("a", 2, "EUR")}, []api.Transfer{pay("", "b", 3, "EUR")}, nil, api.ErrExists}, {nil, []api.Transfer{pay("", "b", 3, "x")}, nil, api.ErrName}, {nil, []api.Transfer{pay("a", "b-", 3, "x")}, nil, api.ErrName}, {nil, []api.Transfer{pay("a", "b", 3, "x")}, nil, api.ErrCurrency},
		{[]api.Position{pos("a", api.MaxTotal, "EUR")}, []api.Transfer{pay("a", "b", 1, "EUR")}, nil, api.ErrRange}, {[]api.Position{pos("b", -api.MaxTotal, "EUR")}, []api.Transfer{pay("a", "b", 1, "EUR")}, nil, api.ErrRange}, {[]api.Position{pos("a", api.MaxTotal, "EUR")}, []api.Transfer{pay("a", "a", 1, "EUR")}, nil, api.ErrRange}, {nil, []api.Transfer{pay("a", "a", 1, "EUR")}, nil, 0},
		{[]api.Position{pos("a", 1, "EUR")}, nil, []api.Position{pos("a", 1, "EUR")}, 0},
	} {
		if l, e := netting.Apply(c.l, c.t); !slices.Equal(l, c.want) || e != c.e {
			t.Error(i, l, e)
		}
	}
}

func TestValidVolume(t *testing.T) {
	l := []api.Position{pos("a", -5, "EUR"), pos("b", 5, "EUR")}
	for i, c := range []struct {
		t    []api.Transfer
		want bool
	}{
		{[]api.Transfer{pay("a", "b", 5, "EUR")}, true}, {[]api.Transfer{pay("a", "b", 3, "EUR"), pay("a", "b", 2, "EUR")}, true}, {[]api.Transfer{pay("a", "b", 4, "EUR")}, false}, {nil, false}, {[]api.Transfer{pay("b", "a", -5, "EUR")}, false}, {[]api.Transfer{pay("a", "b", 5, "EUR"), pay("a", "a", 1, "EUR")}, false},
		{[]api.Transfer{pay("a", "b", 5, "EUR"), pay("a", "b", 0, "EUR")}, false}, {[]api.Transfer{pay("a", "b", 5, "EUR"), pay("a", "-", 1, "EUR")}, false}, {[]api.Transfer{pay("a", "c", 5, "EUR"), pay("c", "b", 5, "EUR")}, true},
	} {
		if netting.Valid(l, c.t) != c.want {
			t.Error(i)
		}
	}
	if !netting.Valid(nil, nil) {
		t.Error("nothing to settle")
	}
	x := []api.Transfer{pay("a", "b", 5, "EUR"), pay("", "", 7, "EUR"), pay("a", "b", -3, "EUR"), pay("a", "b", 9, "USD"), pay("a", "b", api.MaxTotal+1, "EUR"), pay("a", "b", 9, "x")}
	if netting.Volume(x, "EUR") != 12 || netting.Volume(x, "x") != 0 || netting.Volume(append(x, pay("a", "b", api.MaxTotal, "EUR"), pay("a", "b", api.MaxTotal, "EUR")), "EUR") != api.MaxTotal {
		t.Error(netting.Volume(x, "EUR"))
	}
}

func TestBounds(t *testing.T) {
	one := []api.Position{pos("a", -1, "EUR"), pos("b", 1, "EUR")}
	if !netting.Valid(one, []api.Transfer{pay("a", "b", 1, "EUR")}) || netting.Volume([]api.Transfer{pay("a", "b", 1, "EUR"), pay("a", "b", 0, "EUR")}, "EUR") != 1 {
		t.Error("a transfer of one unit")
	}
	full := []api.Position{pos("a", -api.MaxTotal, "EUR"), pos("b", api.MaxTotal, "EUR")}
	l, e := netting.Settle(full)
	if !slices.Equal(l, []api.Transfer{pay("a", "b", api.MaxTotal, "EUR")}) || e != api.OK {
		t.Error(l, e)
	}
	if x, e := netting.Apply(nil, l); !slices.Equal(x, []api.Position{pos("a", api.MaxTotal, "EUR"), pos("b", -api.MaxTotal, "EUR")}) || e != api.OK {
		t.Error(x, e)
	}
}
