package acquirer

import (
	"slices"
	"strconv"

	"cardnet/api"
	"cardnet/calendar"
	"cardnet/plain"
)

// clearing has the records for the next files, and those of earlier ones.
type clearing struct {
	records []filed // they wait for a file
	sent    []filed
	files   int
	copies  map[string]int // by the Id of the original
}

// filed is a record with the Id of its original.
type filed struct {
	api.Record
	original string
}

func (c *clearing) add(r api.Record, original string) {
	c.records = append(c.records, filed{r, original})
}

// record returns a presentment of a sale.
func (h *Host) record(at int, s *sale, id string, amount int64) api.Record {
	date, _ := calendar.Day(at)
	return api.Record{
		Kind: api.RcPresent, Id: id, Auth: s.Ref, Acquirer: h.name, Issuer: network,
		Merchant: s.Purchase.Merchant, Card: s.Purchase.Card,
		Amount: api.Money{Amount: amount, Currency: s.Purchase.Currency},
		Date:   date, Category: s.Purchase.Category,
	}
}

// Capture adds a presentment of an approved purchase to the next file.
func (h *Host) Capture(at int, ref string, amount int64, final bool) api.Errno {
	s := h.find(ref)
	if s == nil {
		return api.ErrNone
	}
	most := int64(0)
	if s.State == approved {
		most = s.Approved
	}
	if final {
		most += most / 5
	}
	switch {
	case !h.isPermitted(at):
		return api.ErrTime
	case s.State != approved:
		return api.ErrState
	case s.final:
		return api.ErrClosed
	case s.captures >= api.MaxParts:
		return api.ErrLimit
	case !plain.IsAmount(amount, 1):
		return api.ErrRange
	case s.Captured+amount > most:
		return api.ErrTolerance
	}
	h.now = at
	s.captures++
	s.final = final
	s.Captured += amount
	r := h.record(at, s, ref+"-"+strconv.Itoa(s.captures), amount)
	r.Final = final
	h.add(r, r.Id)
	return api.OK
}

// Refund adds a refund to the next file.
func (h *Host) Refund(at int, ref string, amount int64) api.Errno {
	s := h.find(ref)
	switch {
	case s == nil:
		return api.ErrNone
	case !h.isPermitted(at):
		return api.ErrTime
	case s.refunds >= api.MaxParts:
		return api.ErrLimit
	case amount < 1 || amount > s.Captured-s.Refunded:
		return api.ErrRange
	}
	h.now = at
	s.refunds++
	s.Refunded += amount
	r := h.record(at, s, ref+"r"+strconv.Itoa(s.refunds), amount)
	r.Kind, r.Auth = api.RcRefund, ""
	h.add(r, r.Id)
	return api.OK
}

// Batch returns the next file, or ErrNone.
func (h *Host) Batch(date int) (api.Batch, api.Errno) {
	if h == nil {
		return api.Batch{}, api.ErrNone
	}
	if !plain.IsDate(date) {
		return api.Batch{}, api.ErrTime
	}
	n := min(len(h.records), api.MaxRecords)
	if n == 0 {
		return api.Batch{}, api.ErrNone
	}
	h.files++
	b := api.Batch{Id: "F" + strconv.Itoa(date) + "-" + strconv.Itoa(h.files), Sender: h.name, Date: date}
	for _, r := range h.records[:n] {
		b.Records = append(b.Records, r.Record)
	}
	h.sent = append(h.sent, h.records[:n]...)
	h.records = slices.Clone(h.records[n:])
	return b, api.OK
}

// Resubmit adds a record that was rejected to the next file, with another card or authorization.
func (h *Host) Resubmit(id, card, auth string) api.Errno {
	if h == nil {
		return api.ErrNone
	}
	i := slices.IndexFunc(h.sent, func(r filed) bool { return r.Id == id })
	switch {
	case i < 0:
		return api.ErrNone
	case card != "" && !isCard(card):
		return api.ErrCard
	case auth != "" && !plain.IsId(auth):
		return api.ErrName
	}
	r := h.sent[i]
	if h.copies[r.original] >= maxCopies {
		return api.ErrLimit
	}
	if h.copies == nil {
		h.copies = map[string]int{}
	}
	h.copies[r.original]++
	r.Id = r.original + "s" + strconv.Itoa(h.copies[r.original])
	if card != "" {
		r.Card = card
	}
	if auth != "" {
		r.Auth = auth
	}
	h.add(r.Record, r.original)
	return api.OK
}
