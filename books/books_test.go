package books_test

import (
	"slices"
	"strconv"
	"testing"

	"cardnet/api"
	"cardnet/books"
	"cardnet/checksum"
	"cardnet/disk"
)

func setup() books.Setup {
	return books.Setup{Parties: []string{"homebank", "shopbank"}, Currency: "EUR", Cutoff: 64800, Days: 7}
}

func start(t *testing.T) *books.Books {
	b, e := books.New(setup())
	if e != api.OK {
		t.Fatal(e)
	}
	return b
}

func approval(at int, id string, amount int64) books.Op {
	return books.Op{Kind: 1, At: at, Auth: id, Amount: amount}
}

func debt(kind, at int, id, auth string, amount, fee int64) books.Op {
	return books.Op{Kind: kind, At: at, Id: id, Auth: auth, Issuer: "homebank", Acquirer: "shopbank", Amount: amount, Fee: fee}
}

func pos(party string, n int64) api.Position {
	return api.Position{Party: party, Net: api.Money{Amount: n, Currency: "EUR"}}
}

func TestNew(t *testing.T) {
	for i, c := range []struct {
		change func(s *books.Setup)
		want   api.Errno
	}{
		{func(s *books.Setup) {}, 0}, {func(s *books.Setup) { s.Days, s.Currency = 0, "" }, api.ErrRange}, {func(s *books.Setup) { s.Days = 1001 }, api.ErrRange}, {func(s *books.Setup) { s.Currency, s.Holidays = "eur", []int{-1} }, api.ErrCurrency}, {func(s *books.Setup) { s.Holidays, s.Cutoff = make([]int, 401), -1 }, api.ErrLong}, {func(s *books.Setup) { s.Cutoff, s.Parties = -1, []string{""} }, api.ErrRange}, {func(s *books.Setup) { s.Parties = []string{""} }, api.ErrName}, {func(s *books.Setup) { s.Parties = nil }, 0},
	} {
		s := setup()
		c.change(&s)
		b, e := books.New(s)
		if e != c.want || (b == nil) != (e != api.OK) {
			t.Error(i, e)
		}
		if b, e := books.Replay(s, []string{"x"}); b != nil || e != c.want && c.want != api.OK {
			t.Error(i, e)
		}
		d, _ := disk.New(1)
		if k, e := books.Open(s, d); e != c.want || (k == nil) != (e != api.OK) {
			t.Error(i, e)
		}
	}
}

func TestOps(t *testing.T) {
	good := debt(4, 100, "i", "a", 500, 10)
	good.Final = true
	for i, c := range []struct {
		op   books.Op
		want api.Errno
		text string
	}{
		{approval(100, "a-1", 500), 0, "1|100||a-1|||500|0|0"}, {good, 0, "4|100|i|a|homebank|shopbank|500|10|1"}, {books.Op{Kind: 0, At: -1}, api.ErrRange, ""}, {books.Op{Kind: 9}, api.ErrRange, ""}, {books.Op{Kind: 1, At: -1, Id: "x"}, api.ErrTime, ""}, {books.Op{Kind: 1, At: api.MaxTime + 1}, api.ErrTime, ""}, {books.Op{Kind: 1, Id: "x", Auth: "a", Amount: 0}, api.ErrName, ""}, {books.Op{Kind: 1, Amount: 1}, api.ErrName, ""},
		{books.Op{Kind: 1, Auth: "a", Issuer: "x", Amount: 1}, api.ErrName, ""}, {books.Op{Kind: 4, Id: "i", Auth: "a", Issuer: "a-b", Acquirer: "b"}, api.ErrName, ""}, {books.Op{Kind: 4, Id: "i", Auth: "a", Issuer: "a", Acquirer: ""}, api.ErrName, ""}, {books.Op{Kind: 5, Id: "i", Auth: "a", Issuer: "a", Acquirer: "b"}, api.ErrName, ""}, {books.Op{Kind: 5, Id: "a b", Issuer: "a", Acquirer: "b"}, api.ErrName, ""}, {books.Op{Kind: 8, Auth: "a"}, api.ErrName, ""},
		{approval(0, "a", 0), api.ErrRange, ""}, {approval(0, "a", api.MaxAmount+1), api.ErrRange, ""}, {books.Op{Kind: 2, Auth: "a"}, api.ErrRange, ""}, {books.Op{Kind: 3, Auth: "a"}, 0, "3|0||a|||0|0|0"}, {books.Op{Kind: 3, Auth: "a", Amount: -1}, api.ErrRange, ""}, {debt(6, 0, "i", "", 0, 0), api.ErrRange, ""}, {debt(6, 0, "i", "", -api.MaxAmount, 0), 0, "6|0|i||homebank|shopbank|-999999999999|0|0"}, {debt(6, 0, "i", "", -api.MaxAmount-1, 0), api.ErrRange, ""}, {debt(6, 0, "i", "", api.MaxAmount+1, 0), api.ErrRange, ""},
		{books.Op{Kind: 8, Amount: api.MaxDate}, 0, "8|0|||||99999|0|0"}, {books.Op{Kind: 8, Amount: -1}, api.ErrRange, ""}, {books.Op{Kind: 8, Amount: api.MaxDate + 1}, api.ErrRange, ""}, {books.Op{Kind: 7, Auth: "a", Amount: 1}, api.ErrRange, ""}, {books.Op{Kind: 7, Auth: "a"}, 0, "7|0||a|||0|0|0"}, {debt(5, 0, "i", "", 5, 6), api.ErrRange, ""}, {debt(5, 0, "i", "", 5, -1), api.ErrRange, ""}, {debt(6, 0, "i", "", 5, 1), api.ErrRange, ""}, {debt(5, 0, "i", "", 5, 5), 0, "5|0|i||homebank|shopbank|5|5|0"},
		{books.Op{Kind: 1, Auth: "a", Amount: 1, Final: true}, api.ErrFormat, ""}, {books.Op{Kind: 5, Id: "i", Issuer: "a", Acquirer: "a", Amount: 1, Final: true}, api.ErrFormat, ""}, {books.Op{Kind: 5, Id: "i", Issuer: "a", Acquirer: "a", Amount: 1}, api.ErrExists, ""},
	} {
		s, e := books.Encode(c.op)
		if s != c.text || e != c.want {
			t.Error(i, s, e)
		}
		if op, e := books.Decode(s); c.want == api.OK && (op != c.op || e != api.OK) {
			t.Error(i, op, e)
		}
		if e := start(t).Do(c.op); c.want != api.OK && e != c.want {
			t.Error(i, e)
		}
	}
	for s, want := range map[string]api.Errno{"": api.ErrFormat, "1|100||a-1|||500|0": api.ErrFormat, "1|100||a-1|||500|0|0|": api.ErrFormat, "01|100||a-1|||500|0|0": api.ErrFormat, "1|x||a-1|||500|0|0": api.ErrFormat, "1|1||a-1|||+5|0|0": api.ErrFormat, "1|1||a-1|||5||0": api.ErrFormat, "1|1||a-1|||5|0|2": api.ErrFormat, "9|1||a-1|||5|0|0": api.ErrRange, "1|-1||a-1|||5|0|0": api.ErrTime} {
		if op, e := books.Decode(s); op != (books.Op{}) || e != want {
			t.Error(s, op, e)
		}
	}
}

func TestBooks(t *testing.T) {
	b := start(t)
	final := debt(4, 200, "a-1-2", "a-1", 600, 0)
	final.Final = true
	for i, c := range []struct {
		op   books.Op
		want api.Errno
	}{
		{approval(100, "a-1", 1000), 0}, {approval(99, "a-1", 1000), api.ErrTime}, {approval(100, "a-1", 1000), api.ErrExists}, {approval(api.MaxTime, "a-2", 1000), api.ErrTime}, {debt(4, 200, "a-1-1", "a-1", 400, 10), 0}, {debt(4, 200, "a-1-1", "x", 400, 10), api.ErrDuplicate}, {debt(5, 200, "a-1-1", "", 400, 10), api.ErrDuplicate}, {debt(4, 199, "a-1-1", "a-1", 400, 10), api.ErrTime}, {debt(4, 200, "z", "x", 400, 10), api.ErrNone},
		{books.Op{Kind: 2, At: 200, Auth: "x", Amount: 1}, api.ErrNone}, {books.Op{Kind: 2, At: 200, Auth: "a-1", Amount: api.MaxAmount}, api.ErrRange}, {books.Op{Kind: 3, At: 200, Auth: "x"}, api.ErrNone}, {books.Op{Kind: 3, At: 200, Auth: "a-1", Amount: 601}, api.ErrRange}, {books.Op{Kind: 7, At: 200, Auth: "x"}, api.ErrNone}, {books.Op{Kind: 7, At: 200, Auth: "a-1"}, api.ErrTime}, {books.Op{Kind: 8, At: 200, Amount: 2}, api.ErrTime},
		{debt(6, 200, "d1", "", 50, 0), 0}, {debt(6, 200, "d2", "", -20, 0), 0}, {books.Op{Kind: 5, At: 200, Id: "r", Issuer: "none", Acquirer: "shopbank", Amount: 5}, api.ErrNone}, {books.Op{Kind: 4, At: 200, Id: "r", Auth: "a-1", Issuer: "none", Acquirer: "shopbank", Amount: 5}, api.ErrNone}, {final, 0}, {debt(4, 200, "zz", "a-1", 1, 0), api.ErrState}, {books.Op{Kind: 8, At: 250, Amount: 0}, 0}, {books.Op{Kind: 8, At: 250, Amount: 0}, api.ErrClosed}, {debt(5, 300, "r1", "", 100, 4), 0},
	} {
		if e := b.Do(c.op); e != c.want {
			t.Error(i, e)
		}
	}
	if a, ok := b.Auth("a-1"); a.Cleared != 1000 || a.Until != 100+7*86400 || !ok {
		t.Error(a, ok)
	}
	if a, ok := b.Auth("x"); a != (api.Auth{}) || ok || b.Balance("party:homebank") != -864 || b.Balance("party:shopbank") != 864 || b.Balance("x") != 0 {
		t.Error(a, b.Balance("party:homebank"))
	}
	if l := b.Positions(0); !slices.Equal(l, []api.Position{pos("homebank", -960), pos("shopbank", 960)}) {
		t.Error(l)
	}
	if l := b.Positions(1); !slices.Equal(l, []api.Position{pos("homebank", 96), pos("shopbank", -96)}) || len(b.Positions(9)) != 0 {
		t.Error(l)
	}
}

func TestEnds(t *testing.T) {
	b := start(t)
	b.Do(approval(100, "a", 1000))
	b.Do(approval(101, "b", 5))
	if e := b.Do(books.Op{Kind: 2, At: 200, Auth: "a", Amount: 500}); e != api.OK {
		t.Error(e)
	}
	if a, _ := b.Auth("a"); a.Approved != 1500 || a.Until != 200+7*86400 {
		t.Error(a)
	}
	b.Do(books.Op{Kind: 3, At: 200, Auth: "a", Amount: 100})
	if e := b.Do(books.Op{Kind: 7, At: 101 + 7*86400, Auth: "b"}); e != api.OK {
		t.Error(e)
	}
	if e := b.Do(books.Op{Kind: 7, At: 199 + 7*86400, Auth: "a"}); e != api.ErrTime {
		t.Error(e)
	}
	b.Do(books.Op{Kind: 3, At: 200 + 7*86400, Auth: "a"})
	if a, _ := b.Auth("a"); a.State != api.AuthReversed || a.Reversed != 1500 {
		t.Error(a)
	}
	want := checksum.Chain(0, "a/EUR/1500/1500/0/0/100/605000/0;b/EUR/5/0/0/5/101/604901/0;605000")
	if b.Digest() != want {
		t.Error(b.Digest())
	}
	for i := range 254 {
		if e := b.Do(approval(605000, "c"+strconv.Itoa(i), 1)); e != api.OK {
			t.Fatal(e)
		}
	}
	if e := b.Do(approval(605000, "z", 1)); e != api.ErrFull {
		t.Error(e)
	}
	for i := range 512 {
		if e := b.Do(debt(5, 605000, "r"+strconv.Itoa(i), "", 1, 1)); e != api.OK {
			t.Fatal(e)
		}
	}
	if e := b.Do(debt(4, 605000, "z", "x", 1, 1)); e != api.ErrFull {
		t.Error(e)
	}
}

// same reports whether books agree in what they show.
func same(a, b *books.Books) bool {
	for date := range 12 {
		if !slices.Equal(a.Positions(date), b.Positions(date)) {
			return false
		}
	}
	return a.Digest() == b.Digest() && a.Balance("party:homebank") == b.Balance("party:homebank")
}

func TestKeeper(t *testing.T) {
	d, _ := disk.New(60)
	k, e := books.Open(setup(), d)
	if e != api.OK {
		t.Fatal(e)
	}
	groups := [][]books.Op{{approval(100, "a", 1000), debt(4, 150, "c1", "a", 100, 3)}, {debt(4, 200, "c2", "a", 300, 0), {Kind: 8, At: 200, Amount: 0}}, {debt(6, 300, "d", "", 70, 0)}}
	var texts []string
	seen := k.Books()
	for _, l := range groups {
		if e := k.Do(l); e != api.OK {
			t.Fatal(e)
		}
		for _, op := range l {
			s, _ := books.Encode(op)
			texts = append(texts, s)
		}
	}
	digest := k.Books().Digest()
	for i, c := range []struct {
		l    []books.Op
		want api.Errno
	}{{nil, api.ErrRange}, {make([]books.Op, 17), api.ErrRange}, {[]books.Op{approval(400, "b", 1), approval(400, "b", 1)}, api.ErrExists}, {[]books.Op{debt(5, 400, "e", "", 5, 0), {Kind: 8, At: 400, Amount: 1}, {}}, api.ErrRange}} {
		if e := k.Do(c.l); e != c.want || k.Books().Digest() != digest || k.Count() != 5 {
			t.Error(i, e)
		}
	}
	r, e := books.Replay(setup(), texts)
	if e != api.OK || !same(r, k.Books()) || seen != k.Books() {
		t.Error(e)
	}
	again, e := books.Open(setup(), d)
	if e != api.OK || !same(again.Books(), k.Books()) || again.Count() != 5 {
		t.Error(e)
	}
	if _, e := books.Replay(setup(), []string{texts[0], texts[0]}); e != api.ErrExists {
		t.Error(e)
	}
	// A group that does not fit into the journal changes nothing.
	var many []books.Op
	for i := range 16 {
		many = append(many, debt(5, 999999, "long-name-"+strconv.Itoa(i), "", 999999999, 999999))
	}
	for e = api.OK; e == api.OK; {
		digest = k.Books().Digest()
		e = k.Do(many)
		for i := range many {
			many[i].Id += "x"
		}
	}
	if e != api.ErrFull || k.Books().Digest() != digest {
		t.Error(e)
	}
	if e := k.Do([]books.Op{approval(1000000, "s", 1)}); e != api.OK {
		t.Error(e)
	}
}

func TestCrash(t *testing.T) {
	for steps := 1; steps <= 4; steps++ {
		for _, mask := range []uint64{0, 1, 2, 3, 7} {
			d, _ := disk.New(60)
			k, _ := books.Open(setup(), d)
			k.Do([]books.Op{approval(100, "a", 1000)})
			before := k.Books().Digest()
			d.Arm(steps, mask)
			e := k.Do([]books.Op{debt(4, 150, "c1", "a", 100, 3), debt(4, 150, "c2", "a", 100, 3)})
			if steps == 4 {
				if e != api.OK {
					t.Error(steps, mask, e)
				}
				continue
			}
			if e != api.ErrDown || k.Books().Digest() != before || k.Do([]books.Op{approval(150, "b", 1)}) != api.ErrDown || k.Count() != 1 {
				t.Error(steps, mask, e)
			}
			d.Recover()
			x, e := books.Open(setup(), d)
			if e != api.OK || x.Count() != 1 && x.Count() != 3 || x.Count() == 1 && x.Books().Digest() != before {
				t.Error(steps, mask, e)
			}
		}
	}
	if k, e := books.Open(books.Setup{}, nil); k != nil || e != api.ErrNone {
		t.Error(k, e)
	}
	d, _ := disk.New(1)
	d.Crash(0)
	if k, e := books.Open(setup(), d); k != nil || e != api.ErrDown {
		t.Error(k, e)
	}
	var none *books.Keeper
	var b *books.Books
	if _, ok := b.Auth("a"); ok || none.Do(nil) != api.ErrNone || none.Books() != nil || none.Count() != 0 || b.Do(approval(0, "a", 1)) != api.ErrNone || b.Balance("a") != 0 || len(b.Positions(0)) != 0 || b.Digest() != 0 {
		t.Error("nil")
	}
	for kind := 1; kind <= 8; kind++ {
		new(books.Books).Do(books.Op{Kind: kind, Auth: "a", Amount: 1})
		new(books.Books).Do(debt(kind, 0, "a", "", 1, 0))
	}
	new(books.Keeper).Do([]books.Op{approval(0, "a", 1)})
	new(books.Books).Digest()
}

func TestBounds(t *testing.T) {
	for _, days := range []int{1, 1000} {
		s := setup()
		s.Days = days
		b, e := books.New(s)
		if e != api.OK || b.Do(approval(5, "a", 1)) != api.OK {
			t.Error(e)
		}
		if a, _ := b.Auth("a"); a.Until != 5+days*86400 {
			t.Error(a)
		}
	}
	b := start(t)
	b.Do(debt(5, 7, "r", "", 3, 3))
	b.Do(debt(4, 7, "c", "x", 3, 3))
	entry := checksum.Chain(0, "r|0|party:shopbank/0/EUR|party:homebank/0/EUR")
	if b.Digest() != checksum.Chain(entry, "7") {
		t.Error(b.Digest())
	}
}

func TestGroups(t *testing.T) {
	s := setup()
	d, _ := disk.New(200)
	k, _ := books.Open(s, d)
	// The setup is not kept by the books.
	s.Parties[0] = "changed"
	var l []books.Op
	for i := range 17 {
		l = append(l, debt(5, 10, "r"+strconv.Itoa(i), "", 5, 0))
	}
	if e := k.Do(l); e != api.ErrRange || k.Count() != 0 {
		t.Error(e)
	}
	if e := k.Do(l[:16]); e != api.OK || k.Count() != 16 || k.Books().Balance("party:homebank") != 80 {
		t.Error(e, k.Count())
	}
	if e := k.Do(l[16:]); e != api.OK || k.Count() != 17 {
		t.Error(e)
	}
	d.Crash(0)
	if k.Do([]books.Op{approval(20, "a", 1)}) != api.ErrDown || k.Do(nil) != api.ErrDown || k.Do(make([]books.Op, 17)) != api.ErrDown {
		t.Error("a keeper that has stopped")
	}
}
