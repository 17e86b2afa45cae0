package paynet

import (
	"slices"

	"cardnet/adjust"
	"cardnet/api"
	"cardnet/assess"
	"cardnet/batch"
	"cardnet/matching"
	"cardnet/record"
)

// maxDaysAhead is how far ahead of the present date a cycle can be settled.
const maxDaysAhead = 10

// suffixes distinguish the records of the movements of a case, which has at most three.
var suffixes = [3]string{"-1", "-2", "-3"}

// isFull reports whether the ledger has room only for the movements of cases that expire.
func (n *Net) isFull() bool { return n.entries >= api.MaxEntries-api.MaxCases }

// Clear collects, validates and posts the files of all acquirers.
func (n *Net) Clear() ([]api.Reject, api.Errno) {
	if n == nil {
		return nil, api.ErrNone
	}
	var all []api.Reject
	for _, o := range n.offices {
		b, e := o.host.Batch(n.date())
		if e != api.OK {
			continue
		}
		text, e := batch.Encode(b)
		if e != api.OK {
			return nil, e
		}
		records, rejects, e := n.intake.Accept(n.date(), text)
		if e != api.OK {
			return nil, e
		}
		for _, r := range rejects {
			n.log(api.EvRejected, o.name, r.Id, 0)
		}
		for i, r := range records {
			if e := n.clear(r); e != api.OK {
				rejects = append(rejects, api.Reject{Index: i, Id: r.Id, Code: e})
				n.log(api.EvRejected, o.name, r.Id, 0)
			}
		}
		all = append(all, rejects...)
	}
	return all, api.OK
}

// isOfMovement reports whether an identification is that of a movement of a case.
func (n *Net) isOfMovement(id string) bool {
	return slices.ContainsFunc(n.desk.Cases(), func(c api.Case) bool {
		for _, s := range suffixes {
			if c.Id+s == id {
				return true
			}
		}
		return false
	})
}

// clear posts and books a record of a file, or returns why it is rejected.
func (n *Net) clear(r api.Record) api.Errno {
	if _, ok := n.ledger.Entry(r.Id); ok || n.isOfMovement(r.Id) {
		return api.ErrDuplicate
	}
	if n.isFull() {
		return api.ErrFull
	}
	if t, ok := n.vault.Get(r.Card); ok {
		r.Card = t.Pan
	}
	b := n.rangeOf(r.Card)
	if b == nil {
		return api.ErrCard
	}
	r.Issuer = b.name
	if r.Kind == api.RcPresent {
		if _, e := matching.Match(b.host.Auths(), r, n.tolerance); e != api.OK {
			return e
		}
	}
	x, e := assess.Assess(n.tables, r)
	if e != api.OK {
		return e
	}
	if e := b.host.Post(n.now, r); e != api.OK {
		return e
	}
	n.book(r, x)
	return api.OK
}

// book enters a record with what the parties receive for it.
func (n *Net) book(r api.Record, x assess.Result) {
	posting := func(account string, amount int64) api.Posting {
		return api.Posting{Account: account, Amount: api.Money{Amount: amount, Currency: n.currency}}
	}
	n.ledger.Post(api.Entry{Id: r.Id, Date: n.date(), Postings: []api.Posting{
		posting(holderName+r.Issuer, x.Cardholder), posting(bankName+r.Issuer, x.Issuer),
		posting(acqName+r.Acquirer, x.Acquirer), posting(shopsName+r.Acquirer, x.Shop), posting(network, x.Network),
	}})
	n.entries++
	n.owe(r.Issuer, r.Acquirer, x.Acquirer+x.Shop+x.Network)
	n.owe(r.Acquirer, network, x.Network)
	n.shops[r.Merchant] += x.Shop
	if r.Kind == api.RcPresent {
		n.booked[r.Id] = r
	}
	n.log(api.EvPosted, r.Issuer, r.Id, -x.Cardholder)
	if x.Shop != 0 {
		n.log(api.EvCredited, r.Merchant, r.Id, x.Shop)
	}
}

// owe lets a party owe another one an amount; a negative one is owed in the other direction.
func (n *Net) owe(from, to string, amount int64) {
	if amount < 0 {
		from, to, amount = to, from, -amount
	}
	n.cycles.Move(n.now, from, to, api.Money{Amount: amount, Currency: n.currency})
}

// Settle closes a cycle, and returns its transfers.
func (n *Net) Settle(date int) ([]api.Transfer, api.Errno) {
	if n == nil {
		return nil, api.ErrNone
	}
	if date > n.date()+maxDaysAhead {
		return nil, api.ErrTime
	}
	if _, e := n.cycles.Close(date); e != api.OK {
		return nil, e
	}
	l, e := n.cycles.Settle(date, nil, n.currency, n.currency)
	if e != api.OK {
		return nil, e
	}
	for _, t := range l {
		n.log(api.EvSettled, t.From, t.To, t.Amount.Amount)
	}
	return l, api.OK
}

// Dispute opens a case about a presentment that was posted.
func (n *Net) Dispute(id, record, reason string, amount int64, items []api.Item) api.Errno {
	if n == nil {
		return api.ErrNone
	}
	r, ok := n.booked[record]
	switch {
	case !ok:
		return api.ErrNone
	case len(id) > api.MaxName-len(suffixes[0]):
		return api.ErrName
	case n.isFull():
		return api.ErrFull
	}
	for _, s := range suffixes {
		if _, ok := n.ledger.Entry(id + s); ok {
			return api.ErrDuplicate
		}
	}
	if e := n.desk.Open(id, r, reason, amount, n.date(), items); e != api.OK {
		return e
	}
	n.moveOn(id)
	return api.OK
}

// Step performs an event of a case.
func (n *Net) Step(id string, event int, items []api.Item) api.Errno {
	if n == nil {
		return api.ErrNone
	}
	if n.isFull() {
		return api.ErrFull
	}
	if e := n.desk.Step(id, event, n.date(), items); e != api.OK {
		return e
	}
	n.moveOn(id)
	return api.OK
}

// moveOn does what the last change of the stage of a case requires.
func (n *Net) moveOn(id string) {
	c, _ := n.desk.Get(id)
	history := n.desk.History(id)
	from := 0
	if len(history) > 1 {
		from = history[len(history)-2]
	}
	n.log(api.EvDisputed, c.Issuer, id, c.Amount.Amount)
	m, ok, e := adjust.Move(c, n.booked[c.Record], from, c.Stage, n.date(), n.movements[id]+1)
	if !ok || e != api.OK {
		return
	}
	n.movements[id]++
	b := n.bankNamed(c.Issuer)
	if b == nil || b.host.Post(n.now, m) != api.OK {
		return
	}
	debit := record.Debit(m)
	n.book(m, assess.Result{Cardholder: -debit, Acquirer: debit})
}
