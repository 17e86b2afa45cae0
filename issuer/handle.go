package issuer

import (
	"cardnet/account"
	"cardnet/api"
	"cardnet/auth"
	"cardnet/calendar"
	"cardnet/fraud"
	"cardnet/message"
	"cardnet/plain"
	"cardnet/trace"
)

// The response codes and the numbers of the data elements.
const (
	approved      = "00"
	refused       = "05"
	partly        = "10"
	impossible    = "12"
	noCard        = "14"
	noOriginal    = "25"
	expiredCard   = "33"
	inactiveCard  = "41"
	noFunds       = "51"
	overAmount    = "61"
	overCount     = "65"
	notDecided    = "91"
	cardNo        = 2
	amountNo      = 4
	approvalNo    = 38
	responseNo    = 39
	currencyNo    = 49
	partialNo     = 54
	originalNo    = 56
	referenceNo   = 37
	raiseNo       = 95
	amountWidth   = 12
	approvalStart = 6
)

// answer is a response code, and the amount that the reply states; 0 leaves that of the message.
type answer struct {
	code   string
	amount int64
}

// Handle processes a message and returns the reply.
func (h *Host) Handle(at int, m api.Message) (api.Message, api.Errno) {
	if h == nil {
		return api.Message{}, api.ErrNone
	}
	if e := message.Check(m); e != api.OK {
		return api.Message{}, e
	}
	if h.dateOf(at) < 0 {
		return api.Message{}, api.ErrTime
	}
	switch m.Type {
	case api.AuthRequest, api.AuthAdvice, api.ReverseRequest, api.ReverseAdvice, api.NetRequest:
	default:
		return api.Message{}, api.ErrState
	}
	key := trace.Key(m)
	if reply, ok := h.recall(key); ok {
		h.now = at
		return reply, api.OK
	}
	h.now = at
	reply := replyTo(m, h.decide(at, m))
	h.remember(key, reply)
	return reply, api.OK
}

func replyTo(m api.Message, x answer) api.Message {
	reply, _ := message.Reply(m, x.code)
	if x.amount > 0 {
		ref, _ := message.Get(m, referenceNo)
		reply, _ = message.With(reply, amountNo, plain.Digits(x.amount, amountWidth))
		reply, _ = message.With(reply, approvalNo, ref[approvalStart:])
	}
	return reply
}

func (h *Host) decide(at int, m api.Message) answer {
	switch m.Type {
	case api.AuthRequest:
		if _, ok := message.Get(m, raiseNo); ok {
			return answer{code: h.raise(at, m)}
		}
		return h.request(at, m)
	case api.AuthAdvice:
		return answer{code: h.advice(at, m)}
	case api.ReverseRequest, api.ReverseAdvice:
		h.reverse(m)
	}
	return answer{code: approved}
}

func (h *Host) isCurrency(m api.Message) bool {
	currency, _ := message.Get(m, currencyNo)
	return currency == h.currency
}

func (h *Host) isFull() bool { return len(h.auths) >= api.MaxAuths }

// request decides on a request that is not a raise.
func (h *Host) request(at int, m api.Message) answer {
	ref, _ := message.Get(m, referenceNo)
	number, _ := message.Get(m, cardNo)
	if h.reversed[ref] {
		return answer{code: refused}
	}
	if x := h.find(ref); x != nil {
		return answer{approved, x.auth.Approved}
	}
	c := h.cards[number]
	if c == nil {
		return answer{code: noCard}
	}
	amount, _ := message.Number(m, amountNo)
	least := amount
	_, partial := message.Get(m, partialNo)
	if partial {
		least, _ = message.Number(m, partialNo)
	}
	if !h.isCurrency(m) || amount == 0 || least < 1 || least > amount || h.isFull() {
		return answer{code: impossible}
	}
	if code := h.examine(at, m, c, amount); code != approved {
		return answer{code: code}
	}
	held, e := c.account.HoldUpTo(ref, amount, least)
	if e != api.OK {
		return answer{code: codeOf(e)}
	}
	if !h.grant(at, m, number, held) {
		c.account.Release(ref, held)
		return answer{code: impossible}
	}
	if held < amount {
		return answer{partly, held}
	}
	return answer{approved, held}
}

// codeOf returns the response code for the error of an account.
func codeOf(e api.Errno) string {
	if e == api.ErrFunds {
		return noFunds
	}
	return impossible
}

// examine returns what the card, the rules and the daily limits say about a request.
func (h *Host) examine(at int, m api.Message, c *holder, amount int64) string {
	date := h.dateOf(at)
	if c.card.State() != api.CardActive {
		return inactiveCard
	}
	if date > c.card.Expiry() {
		return expiredCard
	}
	if h.engine != nil {
		verdict, _ := h.engine.Judge(at, fraud.Features(m))
		if verdict.Action == api.Decline {
			return refused
		}
		if verdict.Action == api.Refer {
			return notDecided
		}
	}
	sum, count := c.card.Used(date)
	if sum+amount > c.daily {
		return overAmount
	}
	if count >= c.count {
		return overCount
	}
	return approved
}

// grant makes the authorization of a request or an advice whose amount is held; false if that is not possible.
func (h *Host) grant(at int, m api.Message, number string, amount int64) bool {
	ref, _ := message.Get(m, referenceNo)
	a, e := auth.New(ref, h.currency, amount, at, h.end(at))
	if e != api.OK {
		return false
	}
	h.auths = append(h.auths, &entry{auth: a, card: number})
	// What the card and the rules remember does not decide any more.
	h.cards[number].card.Use(h.dateOf(at), amount)
	if h.engine != nil {
		h.engine.Record(at, fraud.Features(m), amount)
	}
	return true
}

// raise decides on a request that raises an authorization.
func (h *Host) raise(at int, m api.Message) string {
	ref, _ := message.Get(m, referenceNo)
	original, _ := message.Get(m, originalNo)
	number, _ := message.Get(m, cardNo)
	amount, _ := message.Number(m, raiseNo)
	if h.reversed[ref] {
		return refused
	}
	x := h.find(original)
	if x == nil || x.auth.State != api.AuthOpen || x.card != number {
		return noOriginal
	}
	raised, e := auth.Raise(x.auth, amount, max(x.auth.Until, h.end(at)))
	if !h.isCurrency(m) || e != api.OK {
		return impossible
	}
	if e := h.cards[number].account.Raise(original, amount); e != api.OK {
		return codeOf(e)
	}
	x.auth = raised
	return approved
}

// advice records what was decided in the place of the issuer.
func (h *Host) advice(at int, m api.Message) string {
	ref, _ := message.Get(m, referenceNo)
	number, _ := message.Get(m, cardNo)
	amount, _ := message.Number(m, amountNo)
	if code, _ := message.Get(m, responseNo); code != approved || h.reversed[ref] {
		return approved
	}
	c := h.cards[number]
	if c == nil {
		return noCard
	}
	if !h.isCurrency(m) || amount == 0 {
		return impossible
	}
	if x := h.find(ref); x != nil {
		x.adopt(c.account, number, amount)
		return approved
	}
	if h.isFull() || c.account.Force(ref, amount) != api.OK {
		return impossible
	}
	if !h.grant(at, m, number, amount) {
		c.account.Release(ref, amount)
		return impossible
	}
	return approved
}

// adopt raises an authorization to the amount of an advice, if it is greater.
func (x *entry) adopt(a *account.Account, number string, amount int64) {
	if x.card != number || x.auth.State != api.AuthOpen || x.auth.Approved >= amount {
		return
	}
	missing := amount - x.auth.Approved
	raised, e := auth.Raise(x.auth, missing, x.auth.Until)
	if e == api.OK && a.Force(x.auth.Id, missing) == api.OK {
		x.auth = raised
	}
}

// reverse takes back what is open of the original, now or whenever it arrives.
func (h *Host) reverse(m api.Message) {
	original, _ := message.Get(m, originalNo)
	h.markReversed(original)
	x := h.find(original)
	if x == nil {
		return
	}
	date, _ := calendar.Day(x.auth.At)
	reversed, released, e := auth.Reverse(x.auth, 0)
	if e != api.OK {
		return
	}
	c := h.cards[x.card]
	c.account.Release(original, released)
	c.card.Undo(date, released)
	x.auth = reversed
}
