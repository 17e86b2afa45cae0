package books

import (
	"strconv"
	"strings"

	"cardnet/api"
	"cardnet/lexer"
	"cardnet/plain"
)

// The kinds of operations.
const (
	approve = iota + 1
	raise
	reverse
	clearing
	refund
	dispute
	expire
	closing
)

// isDebt reports whether operations of a kind let a party owe another one an amount.
func isDebt(kind int) bool { return kind >= clearing && kind <= dispute }

// isAuth reports whether operations of a kind concern an authorization.
func isAuth(kind int) bool { return kind <= clearing || kind == expire }

// isField reports whether a text is as it has to be, if it is used, and empty otherwise.
func isField(s string, used bool, form func(string) bool) bool {
	if used {
		return form(s)
	}
	return s == ""
}

func isAmount(op Op) bool {
	switch op.Kind {
	case approve, raise, clearing, refund:
		return plain.IsAmount(op.Amount, 1)
	case reverse:
		return plain.IsAmount(op.Amount, 0)
	case dispute:
		return plain.IsAmount(op.Amount, -api.MaxAmount) && op.Amount != 0
	case closing:
		return op.Amount >= 0 && op.Amount <= api.MaxDate
	}
	return op.Amount == 0
}

func isFee(op Op) bool {
	if op.Kind == clearing || op.Kind == refund {
		return op.Fee >= 0 && op.Fee <= op.Amount
	}
	return op.Fee == 0
}

// check returns the error of an operation.
func check(op Op) api.Errno {
	if op.Kind < approve || op.Kind > closing {
		return api.ErrRange
	}
	debt := isDebt(op.Kind)
	switch {
	case !plain.IsTime(op.At):
		return api.ErrTime
	case !isField(op.Id, debt, plain.IsId) || !isField(op.Auth, isAuth(op.Kind), plain.IsId):
		return api.ErrName
	case !isField(op.Issuer, debt, lexer.IsName) || !isField(op.Acquirer, debt, lexer.IsName):
		return api.ErrName
	case !isAmount(op) || !isFee(op):
		return api.ErrRange
	case op.Final && op.Kind != clearing:
		return api.ErrFormat
	case debt && op.Issuer == op.Acquirer:
		return api.ErrExists
	}
	return api.OK
}

// Encode returns the text of an operation.
func Encode(op Op) (string, api.Errno) {
	if e := check(op); e != api.OK {
		return "", e
	}
	final := "0"
	if op.Final {
		final = "1"
	}
	return strings.Join([]string{
		strconv.Itoa(op.Kind), strconv.Itoa(op.At), op.Id, op.Auth, op.Issuer, op.Acquirer,
		strconv.FormatInt(op.Amount, 10), strconv.FormatInt(op.Fee, 10), final,
	}, "|"), api.OK
}

// Decode returns the operation with this text.
func Decode(s string) (Op, api.Errno) {
	p := strings.Split(s, "|")
	if len(p) != 9 {
		return Op{}, api.ErrFormat
	}
	kind, ok1 := plain.Number(p[0])
	at, ok2 := plain.Number(p[1])
	amount, ok3 := plain.Number(p[6])
	fee, ok4 := plain.Number(p[7])
	if !ok1 || !ok2 || !ok3 || !ok4 || p[8] != "0" && p[8] != "1" {
		return Op{}, api.ErrFormat
	}
	op := Op{Kind: int(kind), At: int(at), Id: p[2], Auth: p[3], Issuer: p[4], Acquirer: p[5], Amount: amount, Fee: fee, Final: p[8] == "1"}
	if e := check(op); e != api.OK {
		return Op{}, e
	}
	return op, api.OK
}
