package ledger_test

import (
	"reflect"
	"slices"
	"strconv"
	"strings"
	"testing"

	"cardnet/api"
	"cardnet/checksum"
	"cardnet/ledger"
)

func p(account string, n int64, currency string) api.Posting {
	return api.Posting{Account: account, Amount: api.Money{Amount: n, Currency: currency}}
}

func entry(id string, l ...api.Posting) api.Entry { return api.Entry{Id: id, Date: 20, Postings: l} }

func start(t *testing.T) *ledger.Ledger {
	l, e := ledger.New([]string{"c:1", "a", "b"})
	if e != api.OK {
		t.Fatal(e)
	}
	return l
}

func TestNew(t *testing.T) {
	var many []string
	for i := range 513 {
		many = append(many, "a"+strconv.Itoa(i))
	}
	for i, c := range []struct {
		l    []string
		want api.Errno
	}{{nil, 0}, {many[:512], 0}, {many, api.ErrLong}, {[]string{"a b"}, api.ErrName}, {[]string{""}, api.ErrName}, {[]string{strings.Repeat("a", 41)}, api.ErrName}, {[]string{strings.Repeat("a", 40), "_-:9"}, 0}, {[]string{"a", "a", ""}, api.ErrExists}} {
		if l, e := ledger.New(c.l); e != c.want || (l == nil) != (e != api.OK) {
			t.Error(i, e)
		}
	}
}

func TestPost(t *testing.T) {
	l := start(t)
	ok := []api.Posting{p("a", -5, "EUR"), p("b", 5, "EUR")}
	for i, c := range []struct {
		e    api.Entry
		want api.Errno
	}{
		{entry("e1", ok...), 0}, {api.Entry{Id: "a b", Date: -1}, api.ErrName}, {api.Entry{Id: "e1", Date: -1}, api.ErrTime}, {api.Entry{Id: "e1", Date: api.MaxDate + 1}, api.ErrTime}, {entry("e1"), api.ErrExists}, {entry("e2"), api.ErrRange}, {entry("e2", slices.Repeat([]api.Posting{p("x", 1, "x")}, 17)...), api.ErrRange},
		{entry("e2", p("a", 1, "EUR"), p("x", 1, "x")), api.ErrNone}, {entry("e2", p("a", 1, "x"), p("x", 1, "x")), api.ErrCurrency}, {entry("e2", p("a", api.MaxTotal+1, "EUR")), api.ErrRange}, {entry("e2", p("a", -5, "EUR"), p("b", 5, "USD")), api.ErrBalance}, {entry("e2", p("a", -5, "EUR"), p("b", 6, "EUR")), api.ErrBalance},
		{entry("e2", p("a", -api.MaxTotal, "EUR"), p("c:1", api.MaxTotal, "EUR")), api.ErrRange}, {entry("e2", p("b", api.MaxTotal, "EUR"), p("c:1", -api.MaxTotal, "EUR")), api.ErrRange}, {entry("e3", p("a", api.MaxTotal, "USD"), p("a", api.MaxTotal, "USD"), p("a", -api.MaxTotal, "USD"), p("b", -api.MaxTotal, "USD")), 0},
		{entry("e4", p("a", 0, "CHF")), 0}, {entry("e5", p("a", -3, "EUR"), p("a", 1, "EUR"), p("c:1", 2, "EUR"), p("b", 7, "GBP"), p("c:1", -7, "GBP")), 0}, {entry("e6", slices.Repeat([]api.Posting{p("a", 1, "EUR"), p("b", -1, "EUR")}, 8)...), 0},
	} {
		if e := l.Post(c.e); e != c.want {
			t.Error(i, e)
		}
	}
	if l.Balance("a", "EUR") != 1 || l.Balance("b", "EUR") != -3 || l.Balance("a", "USD") != api.MaxTotal || l.Balance("x", "EUR") != 0 || l.Balance("a", "x") != 0 {
		t.Error(l.Balance("a", "EUR"), l.Balance("b", "EUR"))
	}
	if s := l.Trial("EUR"); !slices.Equal(s, []api.Posting{p("a", 1, "EUR"), p("b", -3, "EUR"), p("c:1", 2, "EUR")}) || len(l.Trial("CHF")) != 0 {
		t.Error(s)
	}
	if s := l.Statement("c:1"); !slices.Equal(s, []api.Posting{p("c:1", 2, "EUR"), p("c:1", -7, "GBP")}) || len(l.Statement("x")) != 0 || len(l.Statement("a")) != 14+1 {
		t.Error(s, len(l.Statement("a")))
	}
	if x, found := l.Entry("e1"); !reflect.DeepEqual(x, entry("e1", ok...)) || !found {
		t.Error(x, found)
	}
	if x, found := l.Entry("x"); !reflect.DeepEqual(x, api.Entry{}) || found {
		t.Error(x, found)
	}
	all := l.Entries()
	all[0].Postings[0].Account = "changed"
	ok[0].Account = "changed"
	if x, _ := l.Entry("e1"); x.Postings[0].Account != "a" || len(all) != 5 || all[4].Id != "e6" {
		t.Error(x)
	}
}

func TestReverse(t *testing.T) {
	l := start(t)
	l.Post(entry("e1", p("a", -5, "EUR"), p("b", 5, "EUR")))
	for i, c := range []struct{ got, want api.Errno }{
		{l.Reverse("x", "", -1), api.ErrNone}, {l.Reverse("e1", "a b", -1), api.ErrName}, {l.Reverse("e1", "e2", -1), api.ErrTime}, {l.Reverse("e1", "e1", 20), api.ErrExists}, {l.Reverse("e1", "e2", 21), 0}, {l.Reverse("e1", "", 21), api.ErrState}, {l.Reverse("e2", "e3", 21), api.ErrState},
	} {
		if c.got != c.want {
			t.Error(i, c.got)
		}
	}
	if x, _ := l.Entry("e2"); x.Date != 21 || !slices.Equal(x.Postings, []api.Posting{p("a", 5, "EUR"), p("b", -5, "EUR")}) || len(l.Trial("EUR")) != 0 || len(l.Entries()) != 2 {
		t.Error(x)
	}
}

func TestDigest(t *testing.T) {
	l := start(t)
	if l.Digest() != 0 {
		t.Error(l.Digest())
	}
	l.Post(entry("e1", p("a", -5, "EUR"), p("b", 5, "EUR")))
	h := checksum.Chain(0, "e1|20|a/-5/EUR|b/5/EUR")
	if l.Digest() != h {
		t.Error(l.Digest())
	}
	l.Post(entry("e1", p("a", 0, "EUR")))
	l.Post(entry("e2", p("a", 0, "EUR")))
	if l.Digest() != checksum.Chain(h, "e2|20|a/0/EUR") {
		t.Error(l.Digest())
	}
}

func TestRoom(t *testing.T) {
	l := start(t)
	for i := range 512 {
		if e := l.Post(entry("e"+strconv.Itoa(i), p("a", 0, "EUR"))); e != api.OK {
			t.Fatal(e)
		}
	}
	if l.Post(entry("x", p("a", 0, "EUR"))) != api.ErrFull || l.Post(entry("x", p("a", 1, "EUR"))) != api.ErrBalance || l.Reverse("e0", "x", 20) != api.ErrFull || l.Reverse("e0", "x", 20) != api.ErrFull {
		t.Error("room")
	}
	var none *ledger.Ledger
	if _, ok := none.Entry("x"); ok || none.Post(entry("x")) != api.ErrNone || none.Reverse("a", "b", 0) != api.ErrNone || none.Balance("a", "EUR") != 0 || len(none.Entries()) != 0 || len(none.Trial("EUR")) != 0 || len(none.Statement("a")) != 0 || none.Digest() != 0 {
		t.Error("nil ledger")
	}
	new(ledger.Ledger).Post(entry("x", p("a", 0, "EUR")))
}
