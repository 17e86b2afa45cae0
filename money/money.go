// Package money: amounts of money. See shared/doc/01-money.md.
package money

import (
	"cmp"
	"math/bits"
	"slices"
	"strconv"
	"strings"

	"cardnet/api"
	"cardnet/plain"
)

// exponents are the currencies that do not have two decimal places.
var exponents = [10]struct {
	currency string
	places   int
}{
	{"JPY", 0}, {"KRW", 0}, {"VND", 0}, {"CLP", 0}, {"ISK", 0},
	{"BHD", 3}, {"KWD", 3}, {"JOD", 3}, {"OMR", 3}, {"TND", 3},
}

const (
	maxFactor  = 1 << 40
	maxWeights = 64
)

// Check reports whether a currency and an amount are valid.
func Check(m api.Money) api.Errno {
	if !plain.IsCurrency(m.Currency) {
		return api.ErrCurrency
	}
	if m.Amount > api.MaxTotal || m.Amount < -api.MaxTotal {
		return api.ErrRange
	}
	return api.OK
}

func checkBoth(a, b api.Money) api.Errno {
	if e := Check(a); e != api.OK {
		return e
	}
	if e := Check(b); e != api.OK {
		return e
	}
	if a.Currency != b.Currency {
		return api.ErrCurrency
	}
	return api.OK
}

func valid(m api.Money) (api.Money, api.Errno) {
	if e := Check(m); e != api.OK {
		return api.Money{}, e
	}
	return m, api.OK
}

// Add returns a + b.
func Add(a, b api.Money) (api.Money, api.Errno) {
	if e := checkBoth(a, b); e != api.OK {
		return api.Money{}, e
	}
	return valid(api.Money{Amount: a.Amount + b.Amount, Currency: a.Currency})
}

// Sub returns a - b.
func Sub(a, b api.Money) (api.Money, api.Errno) {
	if e := checkBoth(a, b); e != api.OK {
		return api.Money{}, e
	}
	return valid(api.Money{Amount: a.Amount - b.Amount, Currency: a.Currency})
}

// Cmp returns -1, 0 or 1 as a is less than, equal to or greater than b.
func Cmp(a, b api.Money) (int, api.Errno) {
	if e := checkBoth(a, b); e != api.OK {
		return 0, e
	}
	return cmp.Compare(a.Amount, b.Amount), api.OK
}

func magnitude(n int64) uint64 {
	if n < 0 {
		return uint64(-n)
	}
	return uint64(n)
}

// Scale returns m * num / den, rounded.
func Scale(m api.Money, num, den int64, mode int) (api.Money, api.Errno) {
	if e := Check(m); e != api.OK {
		return api.Money{}, e
	}
	if den < 1 || den > maxFactor || num < -maxFactor || num > maxFactor || mode < api.Down || mode > api.HalfEven {
		return api.Money{}, api.ErrRange
	}
	hi, lo := bits.Mul64(magnitude(m.Amount), magnitude(num))
	if hi >= uint64(den) {
		return api.Money{}, api.ErrRange
	}
	q, r := bits.Div64(hi, lo, uint64(den))
	// A quotient above the limit is not rounded, because the greatest one would become 0.
	if q <= api.MaxTotal && roundsUp(q, r, uint64(den), mode) {
		q++
	}
	if q > api.MaxTotal {
		return api.Money{}, api.ErrRange
	}
	n := int64(q)
	if (m.Amount < 0) != (num < 0) {
		n = -n
	}
	return api.Money{Amount: n, Currency: m.Currency}, api.OK
}

// roundsUp decides about the magnitude q with the remainder r.
func roundsUp(q, r, den uint64, mode int) bool {
	switch mode {
	case api.Up:
		return r > 0
	case api.HalfUp:
		return 2*r >= den
	case api.HalfEven:
		return 2*r > den || 2*r == den && q%2 == 1
	}
	return false
}

// Split divides m in proportion to weights, without losing a unit.
func Split(m api.Money, weights []int64) ([]api.Money, api.Errno) {
	if e := Check(m); e != api.OK {
		return nil, e
	}
	sum, ok := sumOfWeights(weights)
	if !ok {
		return nil, api.ErrRange
	}
	whole := magnitude(m.Amount)
	rest := whole
	parts := make([]uint64, len(weights))
	remainders := make([]uint64, len(weights))
	order := make([]int, len(weights))
	for i, w := range weights {
		hi, lo := bits.Mul64(whole, uint64(w))
		parts[i], remainders[i] = bits.Div64(hi, lo, sum)
		rest -= parts[i]
		order[i] = i
	}
	slices.SortStableFunc(order, func(i, j int) int { return cmp.Compare(remainders[j], remainders[i]) })
	for _, i := range order[:rest] {
		parts[i]++
	}
	l := make([]api.Money, len(parts))
	for i, p := range parts {
		n := int64(p)
		if m.Amount < 0 {
			n = -n
		}
		l[i] = api.Money{Amount: n, Currency: m.Currency}
	}
	return l, api.OK
}

func sumOfWeights(weights []int64) (uint64, bool) {
	if len(weights) == 0 || len(weights) > maxWeights {
		return 0, false
	}
	var sum uint64
	for _, w := range weights {
		if w < 0 || w > maxFactor {
			return 0, false
		}
		sum += uint64(w)
	}
	return sum, sum > 0
}

// Sum returns the sum of amounts of one currency.
func Sum(currency string, l []api.Money) (api.Money, api.Errno) {
	sum, e := valid(api.Money{Currency: currency})
	for _, m := range l {
		if e != api.OK {
			break
		}
		sum, e = Add(sum, m)
	}
	return sum, e
}

// Exponent returns the number of decimal places of a currency.
func Exponent(currency string) (int, bool) {
	if !plain.IsCurrency(currency) {
		return 0, false
	}
	for _, x := range exponents {
		if x.currency == currency {
			return x.places, true
		}
	}
	return 2, true
}

// Format returns the text of an amount.
func Format(m api.Money) string {
	if Check(m) != api.OK {
		return ""
	}
	places, _ := Exponent(m.Currency)
	s := plain.Digits(int64(magnitude(m.Amount)), places+1)
	if places > 0 {
		s = s[:len(s)-places] + "." + s[len(s)-places:]
	}
	if m.Amount < 0 {
		s = "-" + s
	}
	return s + " " + m.Currency
}

// Parse returns the amount with this text.
func Parse(s string) (api.Money, api.Errno) {
	if s == "" {
		return api.Money{}, api.ErrShort
	}
	number, currency, _ := strings.Cut(s, " ")
	places, ok := Exponent(currency)
	if !ok {
		return api.Money{}, api.ErrFormat
	}
	number, negative := strings.CutPrefix(number, "-")
	if places > 0 {
		whole, fraction, found := strings.Cut(number, ".")
		if !found || len(fraction) != places || !plain.IsDigits(fraction) || !isWhole(whole) {
			return api.Money{}, api.ErrFormat
		}
		number = whole + fraction
	} else if !isWhole(number) {
		return api.Money{}, api.ErrFormat
	}
	n, err := strconv.ParseInt(number, 10, 64)
	if err != nil || n > api.MaxTotal {
		return api.Money{}, api.ErrRange
	}
	if negative {
		if n == 0 {
			return api.Money{}, api.ErrFormat
		}
		n = -n
	}
	return api.Money{Amount: n, Currency: currency}, api.OK
}

// isWhole reports whether s is a number without superfluous zeros.
func isWhole(s string) bool {
	return plain.IsDigits(s) && (s == "0" || s[0] != '0')
}
