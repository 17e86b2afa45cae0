package dispute_test

import (
	"slices"
	"strconv"
	"testing"

	"cardnet/api"
	"cardnet/dispute"
)

func rec(id string) api.Record {
	return api.Record{Kind: api.RcPresent, Id: id, Acquirer: "shop", Issuer: "home", Merchant: "m", Card: "4000000000000077", Amount: api.Money{Amount: 1000, Currency: "EUR"}, Date: 100}
}

var items = []api.Item{{Kind: "letter", Size: 1}, {Kind: "receipt", Size: 1}}

func reasons() []api.Reason {
	return []api.Reason{{Code: "fraud", FileDays: 120, RepresentDays: 45, PrearbDays: 30, AnswerDays: 20, Claim: []string{"letter"}, Defence: []string{"receipt"}}, {Code: "late", FileDays: 1, RepresentDays: 1, PrearbDays: 1, AnswerDays: 1}}
}

func start(t *testing.T) *dispute.Desk {
	d, e := dispute.New(reasons())
	if e != api.OK {
		t.Fatal(e)
	}
	return d
}

func TestNext(t *testing.T) {
	want := map[[2]int]int{{1, 1}: 2, {1, 4}: 5, {1, 7}: 5, {2, 2}: 3, {2, 4}: 6, {2, 7}: 6, {3, 3}: 4, {3, 4}: 5, {3, 7}: 5, {4, 5}: 5, {4, 6}: 6}
	for stage := 0; stage <= 7; stage++ {
		for event := 0; event <= 8; event++ {
			code := api.ErrState
			if stage == 0 || stage == 7 || event == 0 || event == 8 {
				code = api.ErrRange
			} else if want[[2]int{stage, event}] != 0 {
				code = api.OK
			}
			if n, e := dispute.Next(stage, event); n != want[[2]int{stage, event}] || e != code {
				t.Error(stage, event, n, e)
			}
		}
		if n := dispute.Turn(stage); n != []int{0, 1, 2, 1, 3, 0, 0, 0}[stage] {
			t.Error(stage, n)
		}
	}
}

func TestOpen(t *testing.T) {
	d := start(t)
	bad := rec("p")
	bad.Card = ""
	refund := rec("p")
	refund.Kind = api.RcRefund
	old := rec("p")
	old.Date = api.MaxDate
	for i, c := range []struct {
		id, code string
		r        api.Record
		amount   int64
		date     int
		items    []api.Item
		want     api.Errno
	}{
		{"d1", "fraud", rec("p"), 600, 220, items, 0}, {"a b", "x", bad, 0, -1, nil, api.ErrName}, {"d1", "x", bad, 0, -1, nil, api.ErrExists}, {"d2", "x", bad, 0, -1, nil, api.ErrCard}, {"d2", "x", refund, 0, -1, nil, api.ErrRange}, {"d2", "x", rec("p"), 0, -1, nil, api.ErrNone}, {"d2", "fraud", rec("p"), 0, -1, nil, api.ErrRange}, {"d2", "fraud", rec("p"), 1001, -1, nil, api.ErrRange},
		{"d2", "fraud", rec("p"), 401, -1, nil, api.ErrBalance}, {"d2", "fraud", rec("p"), 400, -1, nil, api.ErrTime}, {"d2", "fraud", rec("p"), 400, 99, nil, api.ErrTime}, {"d2", "fraud", rec("p"), 400, api.MaxDate + 1, nil, api.ErrTime}, {"d2", "fraud", rec("p"), 400, 221, nil, api.ErrDeadline}, {"d2", "fraud", rec("p"), 400, 100, nil, api.ErrEvidence},
		{"d2", "fraud", rec("p"), 400, 100, []api.Item{{Kind: "letter"}}, api.ErrEvidence}, {"d2", "fraud", rec("p"), 400, 100, slices.Repeat(items, 9), api.ErrEvidence}, {"d2", "fraud", rec("p"), 400, 100, slices.Repeat(items, 8), 0}, {"d3", "late", rec("q"), 1000, 101, nil, 0}, {"d4", "late", old, 1, api.MaxDate, nil, api.ErrBalance},
	} {
		if e := d.Open(c.id, c.r, c.code, c.amount, c.date, c.items); e != c.want {
			t.Error(i, e)
		}
	}
	old.Id = "o"
	if e := d.Open("d4", old, "late", 1, api.MaxDate, nil); e != api.OK {
		t.Error(e)
	}
	if c, ok := d.Get("d1"); c != (api.Case{Id: "d1", Record: "p", Reason: "fraud", Issuer: "home", Acquirer: "shop", Amount: api.Money{Amount: 600, Currency: "EUR"}, Stage: 1, Opened: 220, Due: 265}) || !ok {
		t.Error(c, ok)
	}
	if c, _ := d.Get("d4"); c.Due != api.MaxDate {
		t.Error(c)
	}
	if c, ok := d.Get("x"); c != (api.Case{}) || ok || len(d.History("x")) != 0 || d.Disputed("p") != 1000 || d.Disputed("x") != 0 {
		t.Error(c, ok)
	}
	if l := d.Cases(); len(l) != 4 || l[0].Id != "d1" || l[3].Id != "d4" {
		t.Error(l)
	}
	for i := range 60 {
		if e := d.Open("c"+strconv.Itoa(i), rec("r"+strconv.Itoa(i)), "fraud", 1, 100, items); e != api.OK {
			t.Fatal(e)
		}
	}
	if e := d.Open("z", bad, "", 0, 0, nil); e != api.ErrFull {
		t.Error(e)
	}
}

func TestStep(t *testing.T) {
	d := start(t)
	d.Open("d", rec("p"), "fraud", 600, 110, items)
	for i, c := range []struct {
		id          string
		event, date int
		items       []api.Item
		want        api.Errno
		stage, due  int
	}{
		{"x", 0, -1, nil, api.ErrNone, 1, 155}, {"d", 0, -1, nil, api.ErrRange, 1, 155}, {"d", 7, -1, nil, api.ErrRange, 1, 155}, {"d", 2, -1, nil, api.ErrState, 1, 155}, {"d", 1, -1, nil, api.ErrTime, 1, 155}, {"d", 1, 109, nil, api.ErrTime, 1, 155}, {"d", 1, api.MaxDate + 1, nil, api.ErrTime, 1, 155}, {"d", 1, 156, nil, api.ErrDeadline, 1, 155}, {"d", 4, 156, nil, api.ErrDeadline, 1, 155},
		{"d", 1, 155, items[:1], api.ErrEvidence, 1, 155}, {"d", 1, 155, []api.Item{items[1], {}}, api.ErrEvidence, 1, 155}, {"d", 4, 155, slices.Repeat(items, 9), api.ErrEvidence, 1, 155}, {"d", 1, 155, items[1:], 0, 2, 185}, {"d", 2, 154, nil, api.ErrTime, 2, 185}, {"d", 2, 160, nil, 0, 3, 180}, {"d", 3, 181, nil, api.ErrDeadline, 3, 180}, {"d", 3, 180, nil, 0, 4, 0}, {"d", 4, 180, nil, api.ErrState, 4, 0}, {"d", 6, 9999, nil, 0, 6, 0}, {"d", 4, 9999, nil, api.ErrState, 6, 0},
	} {
		e := d.Step(c.id, c.event, c.date, c.items)
		if x, _ := d.Get("d"); e != c.want || x.Stage != c.stage || x.Due != c.due {
			t.Error(i, e, x)
		}
	}
	h := d.History("d")
	if !slices.Equal(h, []int{1, 2, 3, 4, 6}) || d.Disputed("p") != 0 {
		t.Error(h)
	}
	h[0] = 9
	if d.History("d")[0] != 1 {
		t.Error("shared memory")
	}
	if e := d.Open("again", rec("p"), "fraud", 1000, 110, items); e != api.OK {
		t.Error(e)
	}
}

func TestExpire(t *testing.T) {
	d := start(t)
	d.Open("a", rec("p"), "fraud", 1, 100, items)
	d.Open("b", rec("p"), "fraud", 1, 101, items)
	d.Open("c", rec("p"), "fraud", 1, 100, items)
	d.Step("c", 1, 120, items)
	d.Open("w", rec("p"), "late", 1, 100, nil)
	d.Step("w", 1, 101, nil)
	d.Step("w", 2, 102, nil)
	d.Step("w", 3, 103, nil)
	if len(d.Expire(145)) != 0 || len(d.Expire(-1)) != 0 || len(d.Expire(api.MaxDate+1)) != 0 {
		t.Error("nothing is due")
	}
	if l := d.Expire(146); !slices.Equal(l, []string{"a"}) {
		t.Error(l)
	}
	if l := d.Expire(151); !slices.Equal(l, []string{"b", "c"}) || len(d.Expire(9999)) != 0 {
		t.Error(l)
	}
	for id, want := range map[string]int{"a": api.DsWon, "b": api.DsWon, "c": api.DsLost, "w": api.DsArbitration} {
		if c, _ := d.Get(id); c.Stage != want || c.Due != 0 {
			t.Error(id, c)
		}
	}
	if d.Disputed("p") != 3 {
		t.Error(d.Disputed("p"))
	}
	var none *dispute.Desk
	if _, ok := none.Get("a"); ok || none.Open("a", rec("p"), "fraud", 1, 100, items) != api.ErrNone || none.Step("a", 1, 1, nil) != api.ErrNone || len(none.Expire(1)) != 0 || len(none.Cases()) != 0 || len(none.History("a")) != 0 || none.Disputed("p") != 0 {
		t.Error("nil desk")
	}
	if _, e := dispute.New([]api.Reason{{}}); e != api.ErrName {
		t.Error(e)
	}
	l := reasons()
	d, _ = dispute.New(l)
	l[0].Claim[0] = "changed"
	if e := d.Open("a", rec("p"), "fraud", 1, 100, items); e != api.OK {
		t.Error(e)
	}
}

// TestOneDay takes all steps of a case on one date.
func TestOneDay(t *testing.T) {
	d := start(t)
	if e := d.Open("d", rec("p"), "fraud", 1, 100, items); e != api.OK {
		t.Fatal(e)
	}
	for i, event := range []int{1, 2, 3, 5} {
		if e := d.Step("d", event, 100, items); e != api.OK {
			t.Error(i, e)
		}
	}
	if c, _ := d.Get("d"); c.Stage != api.DsWon || d.Disputed("p") != 1 {
		t.Error(c)
	}
	if len(d.Expire(api.MaxDate)) != 0 || !slices.Equal(d.History("d"), []int{1, 2, 3, 4, 5}) {
		t.Error(d.History("d"))
	}
	// The first date is a date, too.
	r := rec("q")
	r.Date = 0
	if e := d.Open("e", r, "late", 1000, 0, nil); e != api.OK || d.Step("e", 4, 1, nil) != api.OK {
		t.Error(e)
	}
}
