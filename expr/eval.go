package expr

import (
	"math/bits"

	"cardnet/api"
)

// evaluation evaluates expressions that Check accepts.
type evaluation struct {
	features []api.Feature
	source   Source
}

// Eval returns the value of an expression.
func Eval(e api.Expr, l []api.Feature, s Source) (api.Feature, api.Errno) {
	if _, code := Check(e, l); code != api.OK {
		return api.Feature{}, code
	}
	return evaluation{l, s}.eval(e)
}

func number(n int64) (api.Feature, api.Errno) {
	if !isNumber(n) {
		return api.Feature{}, api.ErrRange
	}
	return api.Feature{Kind: api.TNumber, N: n}, api.OK
}

func text(s string) api.Feature { return api.Feature{Kind: api.TText, Text: s} }

func truth(b bool) api.Feature {
	v := api.Feature{Kind: api.TBool}
	if b {
		v.N = 1
	}
	return v
}

func (v evaluation) eval(e api.Expr) (api.Feature, api.Errno) {
	switch e.Op {
	case api.XNumber:
		return number(e.N)
	case api.XText:
		return text(e.Text), api.OK
	case api.XName:
		return v.feature(e.Name), api.OK
	case api.XCount, api.XSum:
		return v.uses(e)
	}
	first, code := v.eval(e.Args[0])
	if code != api.OK {
		return api.Feature{}, code
	}
	switch e.Op {
	case api.XNot:
		return truth(first.N == 0), api.OK
	case api.XNeg:
		return number(-first.N)
	case api.XIn:
		return v.in(first, e.Args[1:])
	case api.XAnd, api.XOr:
		if (first.N == 1) == (e.Op == api.XOr) {
			return first, api.OK
		}
		return v.eval(e.Args[1])
	}
	second, code := v.eval(e.Args[1])
	if code != api.OK {
		return api.Feature{}, code
	}
	return combine(e.Op, first, second)
}

// feature returns the value of a feature, without what its kind does not use.
func (v evaluation) feature(name string) api.Feature {
	f, _ := find(v.features, name)
	switch f.Kind {
	case api.TText:
		return text(f.Text)
	case api.TBool:
		return truth(f.N == 1)
	}
	return api.Feature{Kind: api.TNumber, N: f.N}
}

func (v evaluation) uses(e api.Expr) (api.Feature, api.Errno) {
	if v.source == nil {
		return number(0)
	}
	if e.Op == api.XCount {
		return number(v.source.Count(e.Name, int(e.N)))
	}
	return number(v.source.Sum(e.Name, int(e.N)))
}

// in reports whether a value equals that of one of some expressions, which are evaluated until one does.
func (v evaluation) in(value api.Feature, l []api.Expr) (api.Feature, api.Errno) {
	for _, e := range l {
		x, code := v.eval(e)
		if code != api.OK {
			return api.Feature{}, code
		}
		if x == value {
			return truth(true), api.OK
		}
	}
	return truth(false), api.OK
}

func combine(op int, a, b api.Feature) (api.Feature, api.Errno) {
	switch op {
	case api.XEq:
		return truth(a == b), api.OK
	case api.XNe:
		return truth(a != b), api.OK
	case api.XLt:
		return truth(a.N < b.N), api.OK
	case api.XLe:
		return truth(a.N <= b.N), api.OK
	case api.XAdd:
		// A sum or difference of two numbers that overflows becomes -2^63, which is no number either.
		return number(a.N + b.N)
	case api.XSub:
		return number(a.N - b.N)
	}
	return product(a.N, b.N)
}

func product(a, b int64) (api.Feature, api.Errno) {
	hi, lo := bits.Mul64(uint64(max(a, -a)), uint64(max(b, -b)))
	if hi != 0 || lo > maxNumber {
		return api.Feature{}, api.ErrRange
	}
	if (a < 0) != (b < 0) {
		return number(-int64(lo))
	}
	return number(int64(lo))
}
