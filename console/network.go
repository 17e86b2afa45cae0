package console

import (
	"strconv"

	"cardnet/api"
	"cardnet/assess"
	"cardnet/audit"
	"cardnet/feetext"
	"cardnet/matching"
	"cardnet/money"
	"cardnet/paynet"
	"cardnet/plain"
)

const (
	maxParties  = 4
	firstRange  = 400000
	rangeSize   = 1000
	bankCards   = 8 // by which audit numbers the cards of all banks
	interchange = "fee interchange when 1 = 1: 0.2%;"
	schemeFee   = "fee scheme when 1 = 1: 0.05%;"
	merchantFee = "fee merchant when 1 = 1: 1.2% + 5;"
)

// states are the names of the states of sales.
var states = [5]string{"", "waiting", "approved", "declined", "reversed"}

// standard returns the setup of the standard network.
func standard(banks, acquirers int, balance int64) paynet.Setup {
	table := func(text string) []api.FeeRule {
		l, _, _ := feetext.Parse(text)
		return l
	}
	s := paynet.Setup{
		Currency: "EUR", Latency: 1, Timeout: 60, Retry: 30, Days: 7, Cutoff: 64800,
		Tables:    assess.Tables{Interchange: table(interchange), Scheme: table(schemeFee), Merchant: table(merchantFee)},
		Tolerance: matching.Tolerance{Bps: 1500},
		Reasons:   []api.Reason{{Code: "fraud", FileDays: 120, RepresentDays: 45, PrearbDays: 30, AnswerDays: 30, Claim: []string{"letter"}, Defence: []string{"receipt"}}},
	}
	for k := range banks {
		low := firstRange + rangeSize*k
		s.Banks = append(s.Banks, paynet.Bank{
			Name: "bank" + strconv.Itoa(k), Low: strconv.Itoa(low), High: strconv.Itoa(low + rangeSize - 1),
			Cards: 2, Balance: balance, Daily: 1000000, Each: 1000, Day: 5000, Count: 5,
		})
	}
	for k := range acquirers {
		s.Acquirers = append(s.Acquirers, "acq"+strconv.Itoa(k))
	}
	return s
}

func (c *Console) network(banks, acquirers int, balance int64) ([]string, failure) {
	if banks < 1 || banks > maxParties || acquirers < 1 || acquirers > maxParties || !plain.IsAmount(balance, 0) {
		return nil, failed(api.ErrRange)
	}
	n, e := paynet.New(standard(banks, acquirers, balance))
	if e != api.OK {
		return nil, failed(e)
	}
	c.net = n
	return []string{"ok"}, failed(api.OK)
}

// onNetwork executes a command that needs a network.
func (c *Console) onNetwork(name string, a arguments) ([]string, failure) {
	switch name {
	case "buy":
		return c.buy(a)
	case "cancel":
		return c.play(audit.Step{Kind: 2, A: a.numbers[0]})
	case "capture":
		return c.play(audit.Step{Kind: 3, A: a.numbers[0], Amount: int64(a.numbers[1]), Final: true})
	case "refund":
		return c.play(audit.Step{Kind: 4, A: a.numbers[0], Amount: int64(a.numbers[1])})
	case "wait":
		_, f := c.play(audit.Step{Kind: 5, A: a.numbers[0]})
		return []string{"ok " + strconv.Itoa(c.net.Now())}, f
	case "clear":
		return c.clear()
	case "settle":
		return c.settle(a.numbers[0])
	}
	return c.show(name, a)
}

// show executes a command that changes nothing.
func (c *Console) show(name string, a arguments) ([]string, failure) {
	switch name {
	case "sale":
		return c.sale(a.numbers[0])
	case "holder":
		return c.holder(a.numbers[0], a.numbers[1])
	case "shop":
		return []string{amount(c.net.Shop(a.words[0]))}, failed(api.OK)
	case "balance":
		return []string{amount(c.net.Balance(a.words[0]))}, failed(api.OK)
	case "total":
		return []string{amount(c.net.Total())}, failed(api.OK)
	case "quiet":
		if c.net.Quiet() {
			return []string{"yes"}, failed(api.OK)
		}
		return []string{"no"}, failed(api.OK)
	}
	return c.audit(), failed(api.OK)
}

func (c *Console) play(s audit.Step) ([]string, failure) {
	return []string{"ok"}, failed(audit.Play(c.net, s))
}

func (c *Console) buy(a arguments) ([]string, failure) {
	bank, card := a.numbers[1], a.numbers[2]
	if _, ok := c.net.Card(bank, card); !ok {
		return nil, failed(api.ErrNone)
	}
	before := c.net.Sales()
	e := audit.Play(c.net, audit.Step{Kind: 1, A: a.numbers[0], B: bank*bankCards + card, Amount: int64(a.numbers[3]), Text: a.words[0]})
	if e != api.OK {
		return nil, failed(e)
	}
	// The new sale is the last one of its acquirer, so that the sales before it are as they were.
	sales := c.net.Sales()
	i := 0
	for i < len(before) && before[i].Ref == sales[i].Ref {
		i++
	}
	return []string{strconv.Itoa(i) + " " + sales[i].Ref}, failed(api.OK)
}

func (c *Console) clear() ([]string, failure) {
	rejects, e := c.net.Clear()
	var lines []string
	for _, r := range rejects {
		lines = append(lines, "reject "+r.Id+" "+strconv.Itoa(int(r.Code)))
	}
	return append(lines, "ok "+strconv.Itoa(len(rejects))), failed(e)
}

func (c *Console) settle(date int) ([]string, failure) {
	transfers, e := c.net.Settle(date)
	var lines []string
	for _, t := range transfers {
		lines = append(lines, t.From+" "+t.To+" "+money.Format(t.Amount))
	}
	return append(lines, "ok "+strconv.Itoa(len(transfers))), failed(e)
}

func (c *Console) sale(n int) ([]string, failure) {
	sales := c.net.Sales()
	if n < 0 || n >= len(sales) {
		return nil, failed(api.ErrNone)
	}
	s := sales[n]
	return []string{states[s.State] + " " + amount(s.Approved) + " " + amount(s.Captured) + " " + amount(s.Refunded)}, failed(api.OK)
}

func (c *Console) holder(bank, card int) ([]string, failure) {
	number, ok := c.net.Card(bank, card)
	if !ok {
		return nil, failed(api.ErrNone)
	}
	balance, held, _ := c.net.Holder(number)
	return []string{amount(balance) + " " + amount(held)}, failed(api.OK)
}

func (c *Console) audit() []string {
	log := c.net.Log()
	findings := append(audit.Charges(log), audit.Credits(log)...)
	findings = append(findings, audit.Auths(c.net.Auths(), c.net.Now())...)
	if len(findings) == 0 {
		return []string{"clean"}
	}
	var lines []string
	for _, f := range findings {
		lines = append(lines, audit.Name(f.Kind)+" "+f.Ref+" "+amount(f.Amount))
	}
	return lines
}
