package paynet

import (
	"slices"

	"cardnet/acquirer"
	"cardnet/api"
	"cardnet/authswitch"
	"cardnet/calendar"
	"cardnet/issuer"
	"cardnet/link"
	"cardnet/message"
)

// switchPlace is the switch among the parties of the link.
const switchPlace = 0

// The states of sales.
const (
	waiting = iota + 1
	approved
	declined
	reversed
)

// traffic is the part of a network that communicates.
type traffic struct {
	now      int
	currency string
	link     *link.Link
	center   *authswitch.Switch
	banks    []*bank
	offices  []*office
	events   []api.Event
}

// bank is an issuer with the numbers of its cards.
type bank struct {
	name  string
	host  *issuer.Host
	cards []string
}

// office is an acquirer with the states of its sales as they were logged.
type office struct {
	name   string
	host   *acquirer.Host
	states map[string]int
}

func (t *traffic) date() int {
	date, _ := calendar.Day(t.now)
	return date
}

// log adds an event at the present time.
func (t *traffic) log(kind int, party, ref string, amount int64) {
	if len(t.events) < api.MaxEvents {
		t.events = append(t.events, api.Event{Kind: kind, At: t.now, Party: party, Ref: ref, Amount: api.Money{Amount: amount, Currency: t.currency}})
	}
}

// logSales logs the sales whose state has changed.
func (t *traffic) logSales(o *office) {
	for _, s := range o.host.Sales() {
		last, known := o.states[s.Ref]
		if !known {
			last = waiting
		}
		o.states[s.Ref] = s.State
		if s.State == last {
			continue
		}
		switch s.State {
		case approved:
			t.log(api.EvApproved, o.name, s.Ref, s.Approved)
		case declined:
			t.log(api.EvDeclined, o.name, s.Ref, 0)
		case reversed:
			t.log(api.EvReversed, o.name, s.Ref, 0)
		}
	}
}

func (t *traffic) placeOfOffice(k int) int { return 1 + len(t.banks) + k }

// bankNamed returns the bank with a name, or nil.
func (t *traffic) bankNamed(name string) *bank {
	for _, b := range t.banks {
		if b.name == name {
			return b
		}
	}
	return nil
}

// bankOf returns the bank that has issued a card, or nil.
func (t *traffic) bankOf(card string) *bank {
	for _, b := range t.banks {
		if slices.Contains(b.cards, card) {
			return b
		}
	}
	return nil
}

// nameAt returns the name of the party at a place of the link other than the switch.
func (t *traffic) nameAt(place int) string {
	if k := place - 1 - len(t.banks); k >= 0 {
		return t.offices[k].name
	}
	return t.banks[place-1].name
}

// placeOf returns the place of the party with a name; 0 if there is none.
func (t *traffic) placeOf(name string) int {
	for place := 1; place <= len(t.banks)+len(t.offices); place++ {
		if t.nameAt(place) == name {
			return place
		}
	}
	return 0
}

// send sends a message; what cannot be sent is lost.
func (t *traffic) send(from, to int, m api.Message) {
	if text, e := message.Encode(m); e == api.OK {
		t.link.Send(t.now, from, to, text)
	}
}

// sendAll sends the messages of the switch.
func (t *traffic) sendAll(l []authswitch.Out) {
	for _, o := range l {
		if place := t.placeOf(o.To); place > 0 {
			t.send(switchPlace, place, o.Message)
		}
	}
}

// communicate processes what has arrived, and polls the acquirers and the switch.
func (t *traffic) communicate() {
	for _, a := range t.link.Receive(t.now) {
		if m, e := message.Decode(a.Text); e == api.OK {
			t.deliver(a.From, a.To, m)
		}
	}
	for k, o := range t.offices {
		l := o.host.Poll(t.now)
		if len(l) > 0 {
			// A sale that times out has a reversal, which the same Poll returns.
			t.logSales(o)
		}
		for _, m := range l {
			t.send(t.placeOfOffice(k), switchPlace, m)
		}
	}
	t.sendAll(t.center.Poll(t.now))
}

// deliver lets a party process a message.
func (t *traffic) deliver(from, to int, m api.Message) {
	switch k := to - 1 - len(t.banks); {
	case to == switchPlace:
		out, _ := t.center.Handle(t.now, t.nameAt(from), m)
		t.sendAll(out)
	case k >= 0:
		t.offices[k].host.Receive(t.now, m)
		t.logSales(t.offices[k])
	default:
		if reply, e := t.banks[to-1].host.Handle(t.now, m); e == api.OK {
			t.send(to, switchPlace, reply)
		}
	}
}

// expire lets authorizations expire.
func (t *traffic) expire() {
	for _, b := range t.banks {
		for _, ref := range b.host.Expire(t.now) {
			t.log(api.EvExpired, b.name, ref, 0)
		}
	}
}

// sooner returns the lesser one of a time, if there is one, and another one that counts if it is after the present time.
func (t *traffic) sooner(next int, ok bool, at int) (int, bool) {
	if at <= t.now || ok && next <= at {
		return next, ok
	}
	return at, true
}

// nextTraffic returns the next time at which something arrives, is due, or expires.
func (t *traffic) nextTraffic() (int, bool) {
	next, ok := 0, false
	if at, found := t.link.Next(); found {
		next, ok = t.sooner(next, ok, at)
	}
	if at, found := t.center.Next(); found {
		next, ok = t.sooner(next, ok, at)
	}
	for _, o := range t.offices {
		if at, found := o.host.Next(); found {
			next, ok = t.sooner(next, ok, at)
		}
	}
	for _, b := range t.banks {
		for _, a := range b.host.Auths() {
			if a.State == api.AuthOpen {
				next, ok = t.sooner(next, ok, a.Until)
			}
		}
	}
	return next, ok
}

// isQuiet reports whether no message is under way or waits to be repeated.
func (t *traffic) isQuiet() bool {
	_, arrives := t.link.Next()
	if arrives || t.center.Waiting() != 0 {
		return false
	}
	return !slices.ContainsFunc(t.offices, func(o *office) bool {
		_, due := o.host.Next()
		return due
	})
}
