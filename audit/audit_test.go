package audit_test

import (
	"math/rand"
	"slices"
	"testing"

	"cardnet/api"
	"cardnet/assess"
	"cardnet/audit"
	"cardnet/auth"
	"cardnet/feetext"
	"cardnet/matching"
	"cardnet/paynet"
)

func eur(n int64) api.Money { return api.Money{Amount: n, Currency: "EUR"} }

func event(kind int, ref string, amount int64) api.Event {
	return api.Event{Kind: kind, Ref: ref, Amount: eur(amount)}
}

func TestCharges(t *testing.T) {
	p, c := api.EvPosted, api.EvCredited
	usd := event(c, "a", 5)
	usd.Amount.Currency = "USD"
	for i, x := range []struct {
		l                []api.Event
		charges, credits []audit.Finding
	}{
		{nil, nil, nil}, {[]api.Event{event(p, "a", 100), event(p, "b", 5), event(p, "a", 70), event(p, "a", 9)}, []audit.Finding{{1, "a", 70}, {1, "a", 9}}, nil}, {[]api.Event{event(p, "a", 100), event(c, "a", 101)}, nil, []audit.Finding{{2, "a", 101}}}, {[]api.Event{event(p, "a", 100), event(c, "a", 100), event(c, "a", 7)}, nil, []audit.Finding{{3, "a", 7}}},
		{[]api.Event{event(c, "a", 5), event(c, "a", 6), event(p, "a", 9)}, nil, []audit.Finding{{2, "a", 5}, {3, "a", 6}, {2, "a", 6}}}, {[]api.Event{event(p, "a", 5), usd}, nil, []audit.Finding{{2, "a", 5}}}, {[]api.Event{event(p, "a", -5), event(c, "a", -5), event(p, "b", -5), event(c, "b", -6), event(p, "d", -5), event(c, "d", 3)}, nil, []audit.Finding{{2, "b", -6}}},
		{[]api.Event{event(p, "a", 5), event(p, "a", 9), event(c, "a", 7)}, []audit.Finding{{1, "a", 9}}, []audit.Finding{{2, "a", 7}}}, {[]api.Event{event(p, "a", 5), event(c, "a", -7)}, nil, nil}, {[]api.Event{event(p, "a", 0), event(c, "a", 5)}, nil, []audit.Finding{{2, "a", 5}}}, {[]api.Event{event(p, "a", 0), event(c, "a", -5), event(p, "b", 0), event(c, "b", 0)}, nil, nil}, {[]api.Event{event(api.EvApproved, "a", 5), event(api.EvApproved, "a", 5)}, nil, nil},
	} {
		if l := audit.Charges(x.l); !slices.Equal(l, x.charges) {
			t.Error(i, l)
		}
		if l := audit.Credits(x.l); !slices.Equal(l, x.credits) {
			t.Error(i, l)
		}
	}
}

func TestAuthsZero(t *testing.T) {
	a, _ := auth.New("a", "EUR", 500, 5, 90)
	part, _, _, _ := auth.Clear(a, 100, false)
	ended, _, _ := auth.Reverse(a, 0)
	bad := a
	bad.Approved = 0
	l := []api.Auth{a, part, ended, bad}
	if f := audit.Auths(l, 90); !slices.Equal(f, []audit.Finding{{5, "a", 500}, {5, "a", 400}, {4, "a", 0}}) {
		t.Error(f)
	}
	if f := audit.Auths(l, 89); !slices.Equal(f, []audit.Finding{{4, "a", 0}}) {
		t.Error(f)
	}
	pos := func(n int64, currency string) api.Position {
		return api.Position{Net: api.Money{Amount: n, Currency: currency}}
	}
	if f := audit.Zero([]api.Position{pos(5, "USD"), pos(5, "EUR"), pos(-4, "EUR"), pos(7, "CHF"), pos(-7, "CHF")}); !slices.Equal(f, []audit.Finding{{6, "EUR", 1}, {6, "USD", 5}}) {
		t.Error(f)
	}
	if f := audit.Zero(slices.Repeat([]api.Position{pos(api.MaxTotal, "EUR")}, 1000)); !slices.Equal(f, []audit.Finding{{6, "EUR", 1000 * api.MaxTotal}}) {
		t.Error(f)
	}
	for kind, want := range []string{"", "twice", "credit", "recredit", "broken", "overdue", "unbalanced", "money", "disagree", ""} {
		if audit.Name(kind) != want {
			t.Error(kind)
		}
	}
	if audit.Name(-1) != "" {
		t.Error(audit.Name(-1))
	}
}

func rules(s string) []api.FeeRule {
	l, _, _ := feetext.Parse(s)
	return l
}

func setup() paynet.Setup {
	return paynet.Setup{
		Banks: []paynet.Bank{
			{Name: "one", Low: "400000", High: "400999", Cards: 3, Balance: 10000, Limit: 500, Daily: 100000, Each: 1000, Day: 5000, Count: 5},
			{Name: "two", Low: "51", High: "52", Cards: 2, Balance: 3000, Daily: 4000, Each: 300, Day: 500, Count: 2},
		},
		Acquirers: []string{"shop", "mart"}, Currency: "EUR", Latency: 2, Timeout: 60, Retry: 30, Days: 3, Cutoff: 64800,
		Tables:    assess.Tables{Interchange: rules("fee a when amount < 500: 0.5% + 3; fee b when 1 = 1: 1.1% max 20;"), Scheme: rules("fee a when 1 = 1: 0.05% + 1;"), Merchant: rules("fee a when kind = 2: 0%; fee b when 1 = 1: 2% min 5;")},
		Tolerance: matching.Tolerance{Bps: 1500},
		Reasons:   []api.Reason{{Code: "fraud", FileDays: 20, RepresentDays: 4, PrearbDays: 3, AnswerDays: 2, Claim: []string{"letter"}, Defence: []string{"receipt"}}, {Code: "late", FileDays: 2, RepresentDays: 1, PrearbDays: 1, AnswerDays: 1}},
	}
}

func TestPlay(t *testing.T) {
	n, _ := paynet.New(setup())
	for i, c := range []struct {
		s    audit.Step
		want api.Errno
	}{
		{audit.Step{Kind: 0}, api.ErrRange}, {audit.Step{Kind: 10, B: -1}, api.ErrRange}, {audit.Step{Kind: 1, B: -1}, api.ErrNone}, {audit.Step{Kind: 1, B: 3}, api.ErrNone}, {audit.Step{Kind: 1, B: 16}, api.ErrNone}, {audit.Step{Kind: 1, A: 2, Amount: 5, Text: "m"}, api.ErrNone}, {audit.Step{Kind: 1, A: -1, Amount: 5, Text: "m"}, api.ErrNone}, {audit.Step{Kind: 1, Amount: 0, Text: "m"}, api.ErrRange}, {audit.Step{Kind: 1, A: 1, B: 9, Amount: 3500, Text: "m-1", Final: true}, 0},
		{audit.Step{Kind: 5, A: -1}, api.ErrTime}, {audit.Step{Kind: 5, A: 8640001}, api.ErrTime}, {audit.Step{Kind: 1, B: -8, Amount: 5, Text: "m"}, api.ErrNone}, {audit.Step{Kind: 5, A: 20}, 0}, {audit.Step{Kind: 2, A: 1}, api.ErrNone}, {audit.Step{Kind: 3, A: -1}, api.ErrNone}, {audit.Step{Kind: 4, A: 1}, api.ErrNone}, {audit.Step{Kind: 3, A: 0, Final: true}, 0}, {audit.Step{Kind: 2, A: 0}, api.ErrState}, {audit.Step{Kind: 4, A: 0, Amount: 5}, 0}, {audit.Step{Kind: 4, A: 0, Amount: 9000}, api.ErrRange}, {audit.Step{Kind: 6}, 0},
		{audit.Step{Kind: 7, A: 0}, 0}, {audit.Step{Kind: 7, A: 0}, api.ErrClosed}, {audit.Step{Kind: 8, A: 5, Text: "fraud"}, api.ErrNone}, {audit.Step{Kind: 8, A: 0, Amount: 9, Text: ""}, api.ErrNone}, {audit.Step{Kind: 8, A: 0, Amount: 9, Text: "fraud"}, api.ErrEvidence}, {audit.Step{Kind: 8, A: 0, Amount: 9, Text: "fraud letter "}, api.ErrEvidence}, {audit.Step{Kind: 8, A: 0, Amount: 9, Text: "fraud letter x"}, 0}, {audit.Step{Kind: 9, A: 1, B: 1}, api.ErrNone}, {audit.Step{Kind: 9, A: 0, B: 1, Text: "receipt"}, 0}, {audit.Step{Kind: 9, A: 0, B: 4}, 0}, {audit.Step{Kind: 5, A: 8640000}, 0},
	} {
		if e := audit.Play(n, c.s); e != c.want {
			t.Error(i, e)
		}
	}
	if s := n.Sales()[0]; s.Approved != 3000 || s.Purchase.Least != 1 || s.Purchase.Merchant != "m-1" || s.Purchase.Terminal != "t1" || s.Purchase.Category != 5411 || s.Captured != 3000 || s.Refunded != 5 {
		t.Error(s)
	}
	if e := audit.Play(nil, audit.Step{Kind: 99}); e != api.ErrNone {
		t.Error(e)
	}
}

// randomStep returns a step that often is possible.
func randomStep(r *rand.Rand, sales int) audit.Step {
	amounts := []int64{0, 1, 200, 299, 900, 1000, 2500, 4000}
	s := audit.Step{A: r.Intn(sales + 1), B: r.Intn(3) + 8*r.Intn(2), Amount: amounts[r.Intn(len(amounts))], Final: r.Intn(2) == 0}
	switch k := r.Intn(20); {
	case k < 5:
		s.Kind, s.A, s.Text = 1, r.Intn(2), "m"
	case k < 7:
		s.Kind = 3
	case k < 8:
		s.Kind = 2
	case k < 9:
		s.Kind = 4
	case k < 14:
		s.Kind, s.A = 5, []int{1, 3, 7, 29, 31, 61, 500, 86400, 3 * 86400}[r.Intn(9)]
	case k < 16:
		s.Kind = 6
	case k < 17:
		s.Kind, s.A = 7, r.Intn(20)
	case k < 18:
		s.Kind, s.Text = 8, []string{"fraud letter", "late", "fraud"}[r.Intn(3)]
	default:
		s.Kind, s.B, s.Text = 9, 1+r.Intn(6), "receipt"
	}
	return s
}

func randomFaults(r *rand.Rand) []api.Fault {
	var l []api.Fault
	for range r.Intn(6) {
		f := api.Fault{Kind: 1 + r.Intn(4), A: r.Intn(5), B: r.Intn(5), From: r.Intn(1000)}
		f.Until = f.From + r.Intn(400)
		if f.Kind == api.FDelay || f.Kind == api.FRepeat {
			f.Extra = r.Intn(200)
		}
		if f.A != f.B {
			l = append(l, f)
		}
	}
	return l
}

// TestRun lets scripts with faults of the link find nothing.
func TestRun(t *testing.T) {
	quiet := 0
	for seed := range 400 {
		r := rand.New(rand.NewSource(int64(seed)))
		s := setup()
		s.Faults = randomFaults(r)
		var l []audit.Step
		for i := range 60 {
			l = append(l, randomStep(r, i/3))
		}
		l = append(l, audit.Step{Kind: 5, A: 2000})
		if f, e := audit.Run(s, l); len(f) != 0 || e != api.OK {
			t.Error(seed, f, e)
		}
		n, _ := paynet.New(s)
		for _, x := range l {
			audit.Play(n, x)
		}
		if n.Quiet() {
			quiet++
		}
	}
	if quiet < 390 {
		t.Error("not quiet", quiet)
	}
	s := setup()
	s.Banks = nil
	if f, e := audit.Run(s, nil); len(f) != 0 || e != api.ErrRange {
		t.Error(f, e)
	}
}

// TestDisagreement fills an account with holds, so that the advice about a stand-in approval is refused.
func TestDisagreement(t *testing.T) {
	s := setup()
	s.Faults = []api.Fault{{Kind: api.FCut, A: 0, B: 1, From: 5000, Until: 5100}}
	var l []audit.Step
	for range 64 {
		l = append(l, audit.Step{Kind: 1, Amount: 1, Text: "m"}, audit.Step{Kind: 5, A: 20})
	}
	l = append(l, audit.Step{Kind: 5, A: 5010 - 64*20}, audit.Step{Kind: 1, Amount: 7, Text: "m"}, audit.Step{Kind: 5, A: 40})
	if f, e := audit.Run(s, l); len(f) != 0 || e != api.OK {
		t.Error("not quiet", f, e)
	}
	l = append(l, audit.Step{Kind: 5, A: 1000})
	if f, e := audit.Run(s, l); !slices.Equal(f, []audit.Finding{{Kind: 8, Ref: "000000000065", Amount: 7}}) || e != api.OK {
		t.Error(f, e)
	}
	// A purchase that the issuer has declined needs no authorization.
	l = append(l[:128:128], audit.Step{Kind: 1, Amount: 7, Text: "m"}, audit.Step{Kind: 5, A: 1000})
	if f, e := audit.Run(s, l); len(f) != 0 || e != api.OK {
		t.Error(f, e)
	}
}
