package audit

import (
	"strconv"
	"strings"

	"cardnet/acquirer"
	"cardnet/api"
	"cardnet/paynet"
)

// The kinds of steps.
const (
	purchase = iota + 1
	cancel
	capture
	refund
	advance
	clearing
	settle
	dispute
	step
)

const (
	terminal    = "t1"
	category    = 5411
	bankCards   = 8
	maxAdvance  = 100 * 86400
	casePrefix  = "case-"
	firstRecord = "-1"
)

// Step is a step of a script: kinds 1 purchase, 2 cancel, 3 capture, 4 refund, 5 advance, 6 clear, 7 settle, 8 dispute, 9 step.
type Step struct {
	Kind, A, B int
	Amount     int64
	Text       string
	Final      bool
}

// Play plays a step on a network, and returns its error.
func Play(n *paynet.Net, s Step) api.Errno {
	if n == nil {
		return api.ErrNone
	}
	switch s.Kind {
	case purchase:
		return s.purchase(n)
	case cancel, capture, refund, dispute:
		return s.ofSale(n)
	case advance:
		if s.A < 0 || s.A > maxAdvance {
			return api.ErrTime
		}
		return n.Advance(n.Now() + s.A)
	case clearing:
		_, e := n.Clear()
		return e
	case settle:
		_, e := n.Settle(s.A)
		return e
	case step:
		return n.Step(casePrefix+strconv.Itoa(s.A), s.B, items(words(s.Text)))
	}
	return api.ErrRange
}

func (s Step) purchase(n *paynet.Net) api.Errno {
	if s.B < 0 {
		return api.ErrNone
	}
	card, ok := n.Card(s.B/bankCards, s.B%bankCards)
	if !ok {
		return api.ErrNone
	}
	p := acquirer.Purchase{Merchant: s.Text, Terminal: terminal, Card: card, Amount: s.Amount, Currency: n.Currency(), Category: category}
	if s.Final {
		p.Least = 1
	}
	_, e := n.Purchase(s.A, p)
	return e
}

// ofSale performs a step about the sale with the index A.
func (s Step) ofSale(n *paynet.Net) api.Errno {
	sales := n.Sales()
	if s.A < 0 || s.A >= len(sales) {
		return api.ErrNone
	}
	sale := sales[s.A]
	switch s.Kind {
	case cancel:
		return n.Cancel(sale.Ref)
	case capture:
		amount := s.Amount
		if amount == 0 {
			amount = sale.Approved
		}
		return n.Capture(sale.Ref, amount, s.Final)
	case refund:
		return n.Refund(sale.Ref, s.Amount)
	}
	reason, kinds := "", words(s.Text)
	if len(kinds) > 0 {
		reason, kinds = kinds[0], kinds[1:]
	}
	return n.Dispute(casePrefix+strconv.Itoa(s.A), sale.Ref+firstRecord, reason, s.Amount, items(kinds))
}

func words(s string) []string {
	if s == "" {
		return nil
	}
	return strings.Split(s, " ")
}

// items returns an item of evidence of each kind.
func items(kinds []string) []api.Item {
	var l []api.Item
	for _, k := range kinds {
		l = append(l, api.Item{Kind: k, Size: 1, Hash: 1})
	}
	return l
}
