package paynet

import (
	"slices"

	"cardnet/acquirer"
	"cardnet/api"
	"cardnet/assess"
	"cardnet/authswitch"
	"cardnet/binrange"
	"cardnet/calendar"
	"cardnet/cycle"
	"cardnet/dispute"
	"cardnet/intake"
	"cardnet/issuer"
	"cardnet/ledger"
	"cardnet/link"
	"cardnet/matching"
	"cardnet/pan"
	"cardnet/plain"
	"cardnet/standin"
	"cardnet/token"
)

const (
	maxBanks    = 4
	maxCards    = 8
	cardLength  = 16
	cardUses    = 1000
	cardProduct = "card"
	tokenPrefix = "9"
)

// check returns the error of the parts of a setup that no layer below examines.
func (s Setup) check() api.Errno {
	if len(s.Banks) < 1 || len(s.Banks) > maxBanks || len(s.Acquirers) < 1 || len(s.Acquirers) > maxBanks {
		return api.ErrRange
	}
	names := s.names()
	for i, name := range names {
		if !plain.IsName(name) || name == network {
			return api.ErrName
		}
		if slices.Contains(names[:i], name) {
			return api.ErrExists
		}
	}
	if !plain.IsCurrency(s.Currency) {
		return api.ErrCurrency
	}
	for _, b := range s.Banks {
		if b.Cards < 1 || b.Cards > maxCards || !plain.IsAmount(b.Balance, 0) {
			return api.ErrRange
		}
	}
	if e := assess.Check(s.Tables); e != api.OK {
		return e
	}
	_, e := matching.Allowed(1, s.Tolerance)
	return e
}

// names returns the names of the banks and of the acquirers.
func (s Setup) names() []string {
	var l []string
	for _, b := range s.Banks {
		l = append(l, b.Name)
	}
	return append(l, s.Acquirers...)
}

func (s Setup) ranges() []api.Range {
	var l []api.Range
	for _, b := range s.Banks {
		l = append(l, b.cards())
	}
	return l
}

func (b Bank) cards() api.Range {
	return api.Range{Low: b.Low, High: b.High, Issuer: b.Name, Product: cardProduct}
}

func (s Setup) limits() []standin.Limit {
	var l []standin.Limit
	for _, b := range s.Banks {
		l = append(l, standin.Limit{Issuer: b.Name, Each: b.Each, Day: b.Day, Count: b.Count})
	}
	return l
}

func (s Setup) accounts() []string {
	var l []string
	for _, b := range s.Banks {
		l = append(l, holderName+b.Name, bankName+b.Name)
	}
	for _, a := range s.Acquirers {
		l = append(l, acqName+a, shopsName+a)
	}
	return append(l, network)
}

// New returns a network at the time 0.
func New(s Setup) (*Net, api.Errno) {
	if e := s.check(); e != api.OK {
		return nil, e
	}
	n := &Net{
		ranges: s.ranges(), tolerance: s.Tolerance, accounts: s.accounts(),
		booked: map[string]api.Record{}, movements: map[string]int{}, shops: map[string]int64{},
	}
	n.currency = s.Currency
	n.tables = cloneTables(s.Tables)
	for _, build := range []func(Setup) api.Errno{n.settlement, n.communication, n.acquiring, n.issuing} {
		if e := build(s); e != api.OK {
			return nil, e
		}
	}
	return n, api.OK
}

func cloneTables(t assess.Tables) assess.Tables {
	clone := func(l []api.FeeRule) []api.FeeRule {
		l = slices.Clone(l)
		for i := range l {
			l[i].When = plain.CloneExpr(l[i].When)
		}
		return l
	}
	return assess.Tables{Interchange: clone(t.Interchange), Scheme: clone(t.Scheme), Merchant: clone(t.Merchant)}
}

// settlement makes what clears, settles and disputes.
func (n *Net) settlement(s Setup) api.Errno {
	var e api.Errno
	if n.desk, e = dispute.New(s.Reasons); e != api.OK {
		return e
	}
	days, e := calendar.New(s.Holidays)
	if e != api.OK {
		return e
	}
	if n.cycles, e = cycle.New(days, s.Cutoff, append(s.names(), network)); e != api.OK {
		return e
	}
	if n.ledger, e = ledger.New(n.accounts); e != api.OK {
		return e
	}
	n.intake, e = intake.New(s.Acquirers)
	return e
}

// communication makes the link and the switch.
func (n *Net) communication(s Setup) api.Errno {
	var e api.Errno
	if n.link, e = link.New(1+len(s.Banks)+len(s.Acquirers), s.Latency, s.Faults); e != api.OK {
		return e
	}
	timeout := s.Timeout/2 + s.Timeout%2
	if n.center, e = authswitch.New(n.ranges, nil, s.limits(), timeout, s.Retry); e != api.OK {
		return e
	}
	if n.vault, e = token.New(tokenPrefix, cardLength); e != api.OK {
		return e
	}
	n.center.Vault(n.vault)
	return api.OK
}

func (n *Net) acquiring(s Setup) api.Errno {
	for k, name := range s.Acquirers {
		host, e := acquirer.New(name, k, s.Timeout, s.Retry)
		if e != api.OK {
			return e
		}
		n.offices = append(n.offices, &office{name: name, host: host, states: map[string]int{}})
	}
	return api.OK
}

func (n *Net) issuing(s Setup) api.Errno {
	for _, x := range s.Banks {
		host, e := issuer.New(x.Name, s.Currency, s.Days)
		if e != api.OK {
			return e
		}
		b := &bank{name: x.Name, host: host}
		for k := range x.Cards {
			card, e := pan.Make(x.Low, k, cardLength)
			if e != api.OK {
				return e
			}
			if r, ok := binrange.Find(n.ranges, card); !ok || r != x.cards() {
				return api.ErrRoute
			}
			if e := host.Issue(card, api.MaxDate, x.Balance, x.Limit, x.Daily, cardUses); e != api.OK {
				return e
			}
			b.cards = append(b.cards, card)
		}
		n.banks = append(n.banks, b)
	}
	return api.OK
}
