package paynet_test

import (
	"math"
	"slices"
	"strconv"
	"testing"

	"cardnet/acquirer"
	"cardnet/api"
	"cardnet/assess"
	"cardnet/feetext"
	"cardnet/matching"
	"cardnet/paynet"
)

const day = 86400

func percent(t *testing.T, name string) []api.FeeRule {
	l, e, at := feetext.Parse("fee " + name + " when 1 = 1: 1%;")
	if e != api.OK {
		t.Fatal(e, at)
	}
	return l
}

func setup(t *testing.T) paynet.Setup {
	return paynet.Setup{
		Banks:     []paynet.Bank{{Name: "homebank", Low: "400000", High: "400999", Cards: 2, Balance: 10000, Daily: 100000, Each: 1000, Day: 5000, Count: 5}},
		Acquirers: []string{"shopbank"}, Currency: "EUR", Latency: 1, Timeout: 60, Retry: 30, Days: 7, Cutoff: 64800,
		Tables:  assess.Tables{Interchange: percent(t, "i"), Scheme: percent(t, "s"), Merchant: percent(t, "m")},
		Reasons: []api.Reason{{Code: "fraud", FileDays: 120, RepresentDays: 45, PrearbDays: 30, AnswerDays: 30, Claim: []string{"letter"}, Defence: []string{"receipt"}}},
	}
}

func start(t *testing.T, change func(s *paynet.Setup)) *paynet.Net {
	t.Helper()
	s := setup(t)
	change(&s)
	n, e := paynet.New(s)
	if e != api.OK {
		t.Fatal(e)
	}
	return n
}

func plainly(s *paynet.Setup) {}

func buy(t *testing.T, n *paynet.Net, card string, amount int64) string {
	t.Helper()
	ref, e := n.Purchase(0, acquirer.Purchase{Merchant: "m1", Terminal: "t1", Card: card, Amount: amount, Currency: "EUR", Category: 5411})
	if e != api.OK {
		t.Fatal(e)
	}
	return ref
}

func advance(t *testing.T, n *paynet.Net, to int) {
	t.Helper()
	if e := n.Advance(to); e != api.OK || n.Now() != to {
		t.Error(e, n.Now())
	}
}

func holder(t *testing.T, n *paynet.Net, card string, balance, held int64) {
	t.Helper()
	if b, h, ok := n.Holder(card); b != balance || h != held || !ok {
		t.Error(b, h, ok)
	}
}

func sale(t *testing.T, n *paynet.Net, ref string, state int, approved int64) {
	t.Helper()
	if s, ok := n.Sale(ref); s.State != state || s.Approved != approved || !ok {
		t.Error(s, ok)
	}
}

// sold returns a sale that was captured and cleared as a whole.
func sold(t *testing.T, n *paynet.Net, card string, amount int64) string {
	t.Helper()
	ref := buy(t, n, card, amount)
	advance(t, n, n.Now()+10)
	if e := n.Capture(ref, amount, true); e != api.OK {
		t.Fatal(e)
	}
	if l, e := n.Clear(); len(l) != 0 || e != api.OK {
		t.Fatal(l, e)
	}
	return ref
}

func TestNew(t *testing.T) {
	second := paynet.Bank{Name: "other", Low: "5", High: "5", Cards: 8, Balance: api.MaxAmount}
	for i, c := range []struct {
		change func(s *paynet.Setup)
		want   api.Errno
	}{
		{plainly, 0}, {func(s *paynet.Setup) { s.Banks = append(s.Banks, second) }, 0}, {func(s *paynet.Setup) { s.Banks, s.Currency = nil, "" }, api.ErrRange}, {func(s *paynet.Setup) { s.Acquirers = nil }, api.ErrRange}, {func(s *paynet.Setup) { s.Banks = make([]paynet.Bank, 5) }, api.ErrRange}, {func(s *paynet.Setup) { s.Acquirers = make([]string, 5) }, api.ErrRange}, {func(s *paynet.Setup) { s.Banks[0].Name, s.Currency = "a-b", "" }, api.ErrName},
		{func(s *paynet.Setup) { s.Banks[0].Name = "network" }, api.ErrName}, {func(s *paynet.Setup) { s.Acquirers = []string{"homebank", ""} }, api.ErrExists}, {func(s *paynet.Setup) { s.Acquirers = []string{"network"} }, api.ErrName}, {func(s *paynet.Setup) { s.Currency, s.Banks[0].Cards = "eur", 0 }, api.ErrCurrency}, {func(s *paynet.Setup) { s.Banks[0].Cards, s.Tables.Scheme = 0, nil }, api.ErrRange}, {func(s *paynet.Setup) { s.Banks[0].Cards = 9 }, api.ErrRange},
		{func(s *paynet.Setup) { s.Banks[0].Balance = -1 }, api.ErrRange}, {func(s *paynet.Setup) { s.Banks[0].Balance = api.MaxAmount + 1 }, api.ErrRange}, {func(s *paynet.Setup) { s.Tables.Scheme, s.Tolerance.Bps = nil, -1 }, api.ErrNone}, {func(s *paynet.Setup) { s.Tolerance.Bps, s.Reasons[0].Code = 10001, "" }, api.ErrRange}, {func(s *paynet.Setup) { s.Reasons[0].Code, s.Holidays = "", []int{-1} }, api.ErrName}, {func(s *paynet.Setup) { s.Holidays, s.Cutoff = make([]int, 401), -1 }, api.ErrLong},
		{func(s *paynet.Setup) { s.Cutoff, s.Faults = -1, make([]api.Fault, 33) }, api.ErrRange}, {func(s *paynet.Setup) { s.Faults, s.Banks[0].Low = make([]api.Fault, 33), "x" }, api.ErrLong}, {func(s *paynet.Setup) { s.Latency = 0 }, api.ErrRange}, {func(s *paynet.Setup) { s.Banks[0].Low = "x" }, api.ErrFormat}, {func(s *paynet.Setup) { s.Timeout = 0 }, api.ErrRange}, {func(s *paynet.Setup) { s.Timeout = 100001 }, api.ErrRange}, {func(s *paynet.Setup) { s.Timeout = math.MaxInt }, api.ErrRange}, {func(s *paynet.Setup) { s.Retry = 0 }, api.ErrRange},
		{func(s *paynet.Setup) { s.Days = 0 }, api.ErrRange}, {func(s *paynet.Setup) { s.Banks[0].Daily = -1 }, api.ErrRange}, {func(s *paynet.Setup) { s.Banks[0].Limit = -1 }, api.ErrRange}, {func(s *paynet.Setup) { s.Banks[0].Each = -1 }, api.ErrRange}, {func(s *paynet.Setup) {
			s.Banks = append(s.Banks, paynet.Bank{Name: "other", Low: "4000000", High: "4000009", Cards: 1})
		}, api.ErrRoute}, {func(s *paynet.Setup) { s.Faults = []api.Fault{{Kind: 1, A: 0, B: 3}} }, api.ErrRange}, {func(s *paynet.Setup) { s.Faults = []api.Fault{{Kind: 1, A: 0, B: 2, Until: 9}} }, 0},
	} {
		s := setup(t)
		c.change(&s)
		if n, e := paynet.New(s); e != c.want || (n == nil) != (e != api.OK) {
			t.Error(i, e)
		}
	}
}

func TestExample(t *testing.T) {
	n := start(t, plainly)
	card, ok := n.Card(0, 0)
	if !ok || card != "4000000000000002" || n.Currency() != "EUR" {
		t.Error(card, ok)
	}
	ref := buy(t, n, card, 1000)
	if n.Quiet() || ref != "000000000001" {
		t.Error(ref)
	}
	advance(t, n, 10)
	sale(t, n, ref, 2, 1000)
	holder(t, n, card, 10000, 1000)
	if a, ok := n.Auth(ref); !ok || a.Approved != 1000 || len(n.Auths()) != 1 || !n.Quiet() {
		t.Error(a, ok)
	}
	if e := n.Capture(ref, 1000, true); e != api.OK {
		t.Error(e)
	}
	if l, e := n.Clear(); len(l) != 0 || e != api.OK {
		t.Error(l, e)
	}
	holder(t, n, card, 9000, 0)
	for account, want := range map[string]int64{"holder:homebank": -1000, "bank:homebank": 10, "acq:shopbank": -10, "shops:shopbank": 990, "network": 10, "x": 0} {
		if n.Balance(account) != want {
			t.Error(account, n.Balance(account))
		}
	}
	pos := func(party string, amount int64) api.Position {
		return api.Position{Party: party, Net: api.Money{Amount: amount, Currency: "EUR"}}
	}
	if l := n.Positions(0); !slices.Equal(l, []api.Position{pos("homebank", -990), pos("network", 10), pos("shopbank", 980)}) {
		t.Error(l)
	}
	if n.Shop("m1") != 990 || n.Shop("m2") != 0 || n.Total() != 20000 {
		t.Error(n.Shop("m1"), n.Total())
	}
	pay := func(to string, amount int64) api.Transfer {
		return api.Transfer{From: "homebank", To: to, Amount: api.Money{Amount: amount, Currency: "EUR"}}
	}
	if l, e := n.Settle(0); !slices.Equal(l, []api.Transfer{pay("shopbank", 980), pay("network", 10)}) || e != api.OK {
		t.Error(l, e)
	}
	if e := n.Refund(ref, 400); e != api.OK {
		t.Error(e)
	}
	if l, e := n.Clear(); len(l) != 0 || e != api.OK {
		t.Error(l, e)
	}
	holder(t, n, card, 9400, 0)
	if n.Shop("m1") != 594 || n.Total() != 20000 || len(n.Positions(1)) != 3 {
		t.Error(n.Shop("m1"), n.Total(), n.Positions(1))
	}
	event := func(kind, at int, party, ref string, amount int64) api.Event {
		return api.Event{Kind: kind, At: at, Party: party, Ref: ref, Amount: api.Money{Amount: amount, Currency: "EUR"}}
	}
	want := []api.Event{
		event(api.EvApproved, 4, "shopbank", ref, 1000), event(api.EvPosted, 10, "homebank", ref+"-1", 1000), event(api.EvCredited, 10, "m1", ref+"-1", 990), event(api.EvSettled, 10, "homebank", "shopbank", 980), event(api.EvSettled, 10, "homebank", "network", 10),
		event(api.EvPosted, 10, "homebank", ref+"r1", -400), event(api.EvCredited, 10, "m1", ref+"r1", -396),
	}
	log := n.Log()
	if !slices.Equal(log, want) {
		t.Error(log)
	}
	log[0].Ref = "changed"
	if n.Log()[0].Ref != ref {
		t.Error("shared memory")
	}
}

func TestStandIn(t *testing.T) {
	n := start(t, func(s *paynet.Setup) { s.Faults = []api.Fault{{Kind: api.FCut, A: 0, B: 1, From: 0, Until: 100}} })
	card, _ := n.Card(0, 0)
	ref := buy(t, n, card, 1000)
	advance(t, n, 31)
	if _, ok := n.Auth(ref); ok {
		t.Error("the link was cut")
	}
	advance(t, n, 32)
	sale(t, n, ref, 2, 1000)
	advance(t, n, 300)
	if a, ok := n.Auth(ref); !ok || a.Approved != 1000 || !n.Quiet() {
		t.Error(a, ok, n.Quiet())
	}
	if l := n.Log(); len(l) != 1 || l[0].At != 32 || l[0].Kind != api.EvApproved {
		t.Error(l)
	}
}

func TestReversals(t *testing.T) {
	// The replies of the switch are lost for a while: the acquirer reverses.
	n := start(t, func(s *paynet.Setup) { s.Faults = []api.Fault{{Kind: api.FLose, A: 0, B: 2, From: 0, Until: 70}} })
	card, _ := n.Card(0, 1)
	ref := buy(t, n, card, 1000)
	advance(t, n, 59)
	sale(t, n, ref, 1, 0)
	holder(t, n, card, 10000, 1000)
	advance(t, n, 60)
	sale(t, n, ref, 4, 0)
	if n.Quiet() {
		t.Error("the reversal waits")
	}
	advance(t, n, 200)
	holder(t, n, card, 10000, 0)
	if !n.Quiet() {
		t.Error("nothing waits")
	}
	other := buy(t, n, card, 500)
	advance(t, n, 210)
	for i, c := range []struct{ got, want api.Errno }{{n.Cancel("x"), api.ErrNone}, {n.Cancel(ref), api.ErrState}, {n.Cancel(other), 0}, {n.Capture("x", 1, true), api.ErrNone}, {n.Capture(other, 1, true), api.ErrState}, {n.Refund("x", 1), api.ErrNone}, {n.Refund(other, 1), api.ErrRange}} {
		if c.got != c.want {
			t.Error(i, c.got)
		}
	}
	advance(t, n, 220)
	holder(t, n, card, 10000, 0)
	poor := buy(t, n, card, 10001)
	advance(t, n, 230)
	sale(t, n, poor, 3, 0)
	kinds := ""
	for _, x := range n.Log() {
		kinds += strconv.Itoa(x.Kind) + " "
	}
	if kinds != "3 1 3 2 " {
		t.Error(kinds)
	}
}

func TestPurchases(t *testing.T) {
	n := start(t, plainly)
	card, _ := n.Card(0, 0)
	p := acquirer.Purchase{Merchant: "m1", Terminal: "t1", Card: card, Amount: 1, Currency: "EUR", Category: 5411}
	for i, c := range []struct {
		acquirer int
		change   func(p *acquirer.Purchase)
		want     api.Errno
	}{{-1, func(p *acquirer.Purchase) { p.Currency = "" }, api.ErrNone}, {1, func(p *acquirer.Purchase) {}, api.ErrNone}, {0, func(p *acquirer.Purchase) { p.Currency, p.Merchant = "USD", "" }, api.ErrCurrency}, {0, func(p *acquirer.Purchase) { p.Merchant = "" }, api.ErrName}} {
		x := p
		c.change(&x)
		if ref, e := n.Purchase(c.acquirer, x); ref != "" || e != c.want {
			t.Error(i, ref, e)
		}
	}
	for _, c := range [][2]int{{-1, 0}, {1, 0}, {0, -1}, {0, 2}} {
		if s, ok := n.Card(c[0], c[1]); s != "" || ok {
			t.Error(c, s)
		}
	}
	d := api.Domain{Requestor: "shopbank", Merchant: "m1"}
	if s, e := n.Tokenize("4000000000000077", d); s != "" || e != api.ErrNone {
		t.Error(s, e)
	}
	if s, e := n.Tokenize(card, api.Domain{}); s != "" || e != api.ErrName {
		t.Error(s, e)
	}
	token, e := n.Tokenize(card, d)
	if token != "9000000000000001"[:15]+token[15:] || e != api.OK {
		t.Error(token, e)
	}
	ref := sold(t, n, token, 700)
	sale(t, n, ref, 2, 700)
	holder(t, n, card, 9300, 0)
	if _, _, ok := n.Holder(token); ok || n.Balance("holder:homebank") != -700 {
		t.Error(n.Balance("holder:homebank"))
	}
	if l := n.Sales(); len(l) != 1 || l[0].Purchase.Card != token {
		t.Error(l)
	}
}

func TestAdvance(t *testing.T) {
	n := start(t, plainly)
	card, _ := n.Card(0, 0)
	advance(t, n, 50)
	for to, want := range map[int]api.Errno{49: api.ErrTime, -1: api.ErrTime, 50001 * day: api.ErrTime, 1 << 50: api.ErrTime, 50 + 100*day + 1: api.ErrLong, 50001*day - 1: api.ErrLong} {
		if e := n.Advance(to); e != want || n.Now() != 50 {
			t.Error(to, e)
		}
	}
	ref := buy(t, n, card, 1000)
	advance(t, n, 52+7*day-1)
	holder(t, n, card, 10000, 1000)
	advance(t, n, 52+7*day)
	holder(t, n, card, 10000, 0)
	if l := n.Log(); l[len(l)-1] != (api.Event{Kind: api.EvExpired, At: 52 + 7*day, Party: "homebank", Ref: ref, Amount: api.Money{Currency: "EUR"}}) {
		t.Error(l)
	}
	advance(t, n, 50+7*day+100*day)
}

func TestRejects(t *testing.T) {
	n := start(t, func(s *paynet.Setup) { s.Tolerance = matching.Tolerance{Bps: 1500} })
	card, _ := n.Card(0, 0)
	a, b := buy(t, n, card, 1000), buy(t, n, card, 1000)
	advance(t, n, 10)
	n.Capture(a, 1200, true)
	n.Capture(b, 1150, true)
	l, e := n.Clear()
	if !slices.Equal(l, []api.Reject{{Index: 0, Id: a + "-1", Code: api.ErrTolerance}}) || e != api.OK {
		t.Error(l, e)
	}
	holder(t, n, card, 8850, 1000)
	log := n.Log()
	if x := log[2]; x.Kind != api.EvRejected || x.Party != "shopbank" || x.Ref != a+"-1" || x.Amount.Amount != 0 {
		t.Error(log)
	}
	if l, e := n.Clear(); len(l) != 0 || e != api.OK {
		t.Error(l, e)
	}
	if e := n.Refund(a, 100); e != api.OK {
		t.Error(e)
	}
	if l, e := n.Clear(); len(l) != 0 || e != api.OK {
		t.Error(l, e)
	}
	for i, c := range []struct {
		date int
		want api.Errno
	}{{11, api.ErrTime}, {2, api.ErrTime}, {-1, api.ErrTime}, {1, api.ErrState}, {0, 0}, {0, api.ErrClosed}, {8, 0}} {
		if _, e := n.Settle(c.date); e != c.want {
			t.Error(i, e)
		}
	}
	for range 70 {
		n.Refund(b, 1)
		if _, e = n.Clear(); e != api.OK {
			break
		}
	}
	if e != api.OK {
		t.Error(e)
	}
}

func TestFiles(t *testing.T) {
	n := start(t, func(s *paynet.Setup) { s.Banks[0].Balance = 1000000 })
	card, _ := n.Card(0, 0)
	e := api.OK
	cleared := 0
	for e == api.OK && cleared < 100 {
		ref := buy(t, n, card, 10)
		advance(t, n, n.Now()+10)
		n.Capture(ref, 10, true)
		if _, e = n.Clear(); e == api.OK {
			cleared++
		}
	}
	if cleared != 64 || e != api.ErrFull || n.Total() != 2000000 {
		t.Error(cleared, e)
	}
}

func TestDisputes(t *testing.T) {
	n := start(t, plainly)
	card, _ := n.Card(0, 0)
	ref := sold(t, n, card, 1000)
	id := ref + "-1"
	letter, receipt := []api.Item{{Kind: "letter", Size: 1}}, []api.Item{{Kind: "receipt", Size: 1}}
	for i, c := range []struct{ got, want api.Errno }{
		{n.Dispute("a b", "x", "fraud", 600, letter), api.ErrNone}, {n.Dispute("123456789012345", id, "x", 600, letter), api.ErrName}, {n.Dispute("a b", id, "x", 600, letter), api.ErrName}, {n.Dispute("000000000001", id, "fraud", 600, letter), api.ErrDuplicate}, {n.Dispute("d", id, "x", 600, letter), api.ErrNone}, {n.Dispute("d", id, "fraud", 600, nil), api.ErrEvidence}, {n.Dispute("d", id, "fraud", 600, letter), 0},
		{n.Step("x", 1, nil), api.ErrNone}, {n.Step("d", 1, letter), api.ErrEvidence},
	} {
		if c.got != c.want {
			t.Error(i, c.got)
		}
	}
	holder(t, n, card, 9600, 0)
	if n.Balance("acq:shopbank") != -610 || n.Balance("holder:homebank") != -400 || n.Shop("m1") != 990 || n.Total() != 20000 {
		t.Error(n.Balance("acq:shopbank"))
	}
	if e := n.Step("d", 1, receipt); e != api.OK {
		t.Error(e)
	}
	holder(t, n, card, 9000, 0)
	if e := n.Step("d", 2, nil); e != api.OK {
		t.Error(e)
	}
	holder(t, n, card, 9000, 0)
	// The acquirer does not answer in time.
	advance(t, n, 31*day-1)
	holder(t, n, card, 9000, 0)
	advance(t, n, 31*day)
	holder(t, n, card, 9600, 0)
	kinds := ""
	for _, x := range n.Log()[3:] {
		kinds += strconv.Itoa(x.Kind) + x.Ref + " " + strconv.FormatInt(x.Amount.Amount, 10) + " " + x.Party + ";"
	}
	if kinds != "9d 600 homebank;5d-1 -600 homebank;9d 600 homebank;5d-2 600 homebank;9d 600 homebank;9d 600 homebank;5d-3 -600 homebank;" {
		t.Error(kinds)
	}
	if n.Total() != 20000 {
		t.Error(n.Total())
	}
	if e := n.Dispute("e", id, "fraud", 401, letter); e != api.ErrBalance {
		t.Error(e)
	}
}

func TestNone(t *testing.T) {
	var n *paynet.Net
	_, e1 := n.Tokenize("", api.Domain{})
	_, e2 := n.Purchase(0, acquirer.Purchase{})
	_, e3 := n.Clear()
	_, e4 := n.Settle(0)
	for i, e := range []api.Errno{e1, e2, e3, e4, n.Cancel(""), n.Capture("", 1, true), n.Refund("", 1), n.Advance(0), n.Dispute("", "", "", 1, nil), n.Step("", 1, nil)} {
		if e != api.ErrNone {
			t.Error(i, e)
		}
	}
	_, ok1 := n.Card(0, 0)
	_, ok2 := n.Sale("")
	_, _, ok3 := n.Holder("")
	_, ok4 := n.Auth("")
	if ok1 || ok2 || ok3 || ok4 || n.Now() != 0 || n.Currency() != "" || len(n.Sales()) != 0 || n.Shop("") != 0 || n.Balance("") != 0 || n.Total() != 0 || len(n.Auths()) != 0 || len(n.Positions(0)) != 0 || n.Quiet() || len(n.Log()) != 0 {
		t.Error("nil network")
	}
	z := new(paynet.Net)
	z.Advance(5)
	z.Clear()
	z.Settle(0)
	z.Dispute("a", "b", "c", 1, nil)
	z.Step("a", 1, nil)
	z.Quiet()
	z.Total()
}

// many returns a network with sales that were captured in eight parts each, and refunded in eight parts if that is wanted.
func many(t *testing.T, sales int, refunded bool) *paynet.Net {
	t.Helper()
	n := start(t, func(s *paynet.Setup) { s.Banks[0].Cards, s.Banks[0].Balance = 8, 1000000 })
	for i := range sales {
		card, _ := n.Card(0, i%8)
		ref := buy(t, n, card, 80)
		advance(t, n, n.Now()+5)
		for k := range 8 {
			if e := n.Capture(ref, 10, false); e != api.OK {
				t.Fatal(i, k, e)
			}
			if refunded && n.Refund(ref, 1) != api.OK {
				t.Fatal(i, k)
			}
		}
	}
	return n
}

// clear returns how many records a Clear rejects, all of them with a code.
func clear(t *testing.T, n *paynet.Net, code api.Errno) int {
	t.Helper()
	l, e := n.Clear()
	for _, r := range l {
		if r.Code != code {
			t.Error(r)
		}
	}
	if e != api.OK {
		t.Error(e)
	}
	return len(l)
}

func TestFullLedger(t *testing.T) {
	n := many(t, 60, false)
	card, _ := n.Card(0, 0)
	letter, receipt := []api.Item{{Kind: "letter", Size: 1}}, []api.Item{{Kind: "receipt", Size: 1}}
	if k := clear(t, n, api.ErrFull); k != 0 {
		t.Error(k)
	}
	for i, e := range []api.Errno{n.Dispute("d", "000000000001-1", "fraud", 10, letter), n.Step("d", 1, receipt), n.Step("d", 2, nil), n.Dispute("e", "000000000001-2", "fraud", 10, letter)} {
		if e != api.OK {
			t.Error(i, e)
		}
	}
	// 203 entries have been recorded; there is room for 245 more.
	if k := clear(t, n, api.ErrFull); k != 0 {
		t.Error(k)
	}
	if k := clear(t, n, api.ErrFull); k != 80-45 {
		t.Error(k)
	}
	if e := n.Dispute("f", "000000000002-1", "fraud", 10, letter); e != api.ErrFull {
		t.Error(e)
	}
	if e := n.Step("e", 1, receipt); e != api.ErrFull {
		t.Error(e)
	}
	// What expires is booked all the same.
	before, _, _ := n.Holder(card)
	advance(t, n, 31*day)
	if after, _, _ := n.Holder(card); after != before+10 || n.Total() != 8000000 {
		t.Error(before, after, n.Total())
	}
}

func TestLogBound(t *testing.T) {
	n := many(t, 250, true)
	for range 25 {
		if _, e := n.Clear(); e != api.OK {
			t.Fatal(e)
		}
	}
	if l := n.Log(); len(l) != api.MaxEvents || l[0].Kind != api.EvApproved || n.Total() != 8000000 {
		t.Error(len(l))
	}
}

// TestNamesOfMovements clears records whose identifications are those of movements of a case.
func TestNamesOfMovements(t *testing.T) {
	n := start(t, plainly)
	card, _ := n.Card(0, 0)
	ref := sold(t, n, card, 1000)
	other := buy(t, n, card, 1000)
	advance(t, n, n.Now()+10)
	if e := n.Dispute(other, ref+"-1", "fraud", 10, []api.Item{{Kind: "letter", Size: 1}}); e != api.OK {
		t.Error(e)
	}
	for range 4 {
		n.Capture(other, 100, false)
	}
	l, e := n.Clear()
	want := []api.Reject{{Index: 0, Id: other + "-1", Code: api.ErrDuplicate}, {Index: 1, Id: other + "-2", Code: api.ErrDuplicate}, {Index: 2, Id: other + "-3", Code: api.ErrDuplicate}}
	if !slices.Equal(l, want) || e != api.OK {
		t.Error(l, e)
	}
	holder(t, n, card, 10000-1000+10-100, 900)
	if e := n.Dispute("12345678901234", ref+"-1", "fraud", 10, []api.Item{{Kind: "letter", Size: 1}}); e != api.OK {
		t.Error(e)
	}
}

func TestBounds(t *testing.T) {
	s := setup(t)
	s.Acquirers = []string{"a", "b", "c", "d"}
	s.Banks[0].Cards = 1
	for i, name := range []string{"x", "y", "z"} {
		s.Banks = append(s.Banks, paynet.Bank{Name: name, Low: strconv.Itoa(50 + i), High: strconv.Itoa(50 + i), Cards: 1})
	}
	n, e := paynet.New(s)
	if e != api.OK {
		t.Fatal(e)
	}
	// The setup is not kept.
	s.Tables.Merchant[0].Bps, s.Tables.Merchant[0].When.Args[0].N, s.Banks[0].Name = 9999, 7, "changed"
	card, _ := n.Card(0, 0)
	if ref := sold(t, n, card, 1000); ref != "000000000001" || n.Shop("m1") != 990 {
		t.Error(ref, n.Shop("m1"))
	}
	advance(t, n, n.Now())
	if e := n.Advance(n.Now() + 100*day); e != api.OK {
		t.Error(e)
	}
	for n.Now() < 49900*day {
		advance(t, n, n.Now()+100*day)
	}
	advance(t, n, 49999*day)
	advance(t, n, 50000*day+86399)
	if e := n.Advance(50001 * day); e != api.ErrTime {
		t.Error(e)
	}
}

func TestSettleAhead(t *testing.T) {
	n := start(t, plainly)
	advance(t, n, day)
	for i, c := range []struct {
		date int
		want api.Errno
	}{{12, api.ErrTime}, {11, 0}, {4, 0}, {11, api.ErrClosed}} {
		if l, e := n.Settle(c.date); len(l) != 0 || e != c.want {
			t.Error(i, l, e)
		}
	}
}

// TestSwitchTimeout compares timeouts of the switch, which are half of those of the acquirers, rounded up.
func TestSwitchTimeout(t *testing.T) {
	for timeout, decided := range map[int]int{59: 32, 60: 32, 61: 33, 62: 33} {
		n := start(t, func(s *paynet.Setup) {
			s.Timeout, s.Retry = timeout, 100
			s.Faults = []api.Fault{{Kind: api.FCut, A: 0, B: 1, From: 0, Until: 100}}
		})
		card, _ := n.Card(0, 0)
		ref := buy(t, n, card, 1000)
		advance(t, n, decided-1)
		sale(t, n, ref, 1, 0)
		advance(t, n, decided)
		sale(t, n, ref, 2, 1000)
		// The advice was lost, and waits: nothing else does.
		advance(t, n, 50)
		if n.Quiet() {
			t.Error(timeout)
		}
		advance(t, n, 200)
		if !n.Quiet() {
			t.Error(timeout)
		}
	}
}

func TestEventTimes(t *testing.T) {
	n := start(t, func(s *paynet.Setup) {
		s.Faults = []api.Fault{{Kind: api.FLose, A: 0, B: 2, From: 100, Until: 200}}
	})
	card, _ := n.Card(0, 0)
	a, b := buy(t, n, card, 10), buy(t, n, card, 20000)
	advance(t, n, 50)
	n.Cancel(a)
	if l := n.Log(); len(l) != 3 || l[2].Kind != api.EvReversed || l[2].At != 50 || l[2].Ref != a || l[2].Amount.Amount != 0 || l[2].Party != "shopbank" {
		t.Error(l)
	}
	advance(t, n, 100)
	c := buy(t, n, card, 10)
	advance(t, n, 300)
	l := n.Log()
	if len(l) != 4 || l[1].Kind != api.EvDeclined || l[1].At != 4 || l[1].Ref != b || l[1].Amount != (api.Money{Currency: "EUR"}) || l[3].Kind != api.EvReversed || l[3].At != 160 || l[3].Ref != c {
		t.Error(l)
	}
}
