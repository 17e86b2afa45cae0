package money_test

import (
	"math"
	"math/big"
	"math/bits"
	"math/rand"
	"testing"

	"cardnet/api"
	"cardnet/money"
)

// scaled returns n * num / den in a mode, by numbers of any size.
func scaled(n, num, den int64, mode int) *big.Int {
	product := new(big.Int).Mul(big.NewInt(n), big.NewInt(num))
	sign := product.Sign()
	q, r := new(big.Int).QuoRem(product.Abs(product), big.NewInt(den), new(big.Int))
	twice := new(big.Int).Lsh(r, 1).Cmp(big.NewInt(den))
	up := mode == api.Up && r.Sign() > 0 || mode == api.HalfUp && twice >= 0 || mode == api.HalfEven && (twice > 0 || twice == 0 && q.Bit(0) == 1)
	if up {
		q.Add(q, big.NewInt(1))
	}
	return q.Mul(q, big.NewInt(int64(sign)))
}

func TestScaleIsExact(t *testing.T) {
	r := rand.New(rand.NewSource(1))
	for range 20000 {
		n, num, den := r.Int63n(2<<r.Intn(52)), r.Int63n(2<<r.Intn(40)), 1+r.Int63n(1<<r.Intn(40))
		if r.Intn(2) == 0 {
			n = -n
		}
		if r.Intn(2) == 0 {
			num = -num
		}
		mode := 1 + r.Intn(4)
		x, e := money.Scale(usd(n), num, den, mode)
		want := scaled(n, num, den, mode)
		inside := n <= api.MaxTotal && n >= -api.MaxTotal && num <= 1<<40 && num >= -1<<40 && new(big.Int).Abs(want).Cmp(big.NewInt(api.MaxTotal)) <= 0
		if inside && (e != api.OK || big.NewInt(x.Amount).Cmp(want) != 0) || !inside && e != api.ErrRange {
			t.Fatal(n, num, den, mode, x, e, want)
		}
	}
}

// The exact results between 2^64 - 1 and 2^64 are those whose rounding leaves the integers of 64 bits.
func TestScaleNextTo64Bits(t *testing.T) {
	for _, den := range []uint64{2, 10, 1000, 1 << 20} {
		found := 0
		// Below this numerator the amount would be greater than MaxTotal.
		for num := den << 12; num <= den<<12+300000; num++ {
			n, missing := bits.Div64(den-1, math.MaxUint64, num)
			if missing >= den-1 || n > api.MaxTotal {
				continue
			}
			found++
			checkTooGreat(t, int64(n), int64(num), int64(den))
		}
		if found == 0 {
			t.Error("no amount for the denominator", den)
		}
	}
}

func checkTooGreat(t *testing.T, n, num, den int64) {
	for _, amount := range []int64{n, -n} {
		for _, factor := range []int64{num, -num} {
			for mode := api.Down; mode <= api.HalfEven; mode++ {
				if x, e := money.Scale(usd(amount), factor, den, mode); x != (api.Money{}) || e != api.ErrRange {
					t.Error(amount, factor, den, mode, x, e)
				}
			}
		}
	}
}

// The bound holds for the result, so that rounding decides next to it.
func TestScaleNextToMaxTotal(t *testing.T) {
	for _, n := range []int64{api.MaxTotal, api.MaxTotal - 1, api.MaxTotal / 2, api.MaxTotal/2 + 1, api.MaxTotal/3 + 1, api.MaxTotal/4 + 1} {
		for num := int64(1); num <= 13; num++ {
			for den := int64(1); den <= 13; den++ {
				for mode := api.Down; mode <= api.HalfEven; mode++ {
					want := scaled(n, num, den, mode)
					inside := want.Cmp(big.NewInt(api.MaxTotal)) <= 0
					x, e := money.Scale(usd(n), num, den, mode)
					if inside && (e != api.OK || big.NewInt(x.Amount).Cmp(want) != 0) || !inside && (e != api.ErrRange || x != (api.Money{})) {
						t.Fatal(n, num, den, mode, x, e, want)
					}
				}
			}
		}
	}
}

func TestSplitAddsUp(t *testing.T) {
	r := rand.New(rand.NewSource(2))
	for range 5000 {
		n := r.Int63n(1 << r.Intn(52))
		weights := make([]int64, 1+r.Intn(6))
		var sum int64
		for i := range weights {
			weights[i] = r.Int63n(1 << r.Intn(41))
			sum += weights[i]
		}
		l, e := money.Split(usd(n), weights)
		if sum == 0 {
			if e != api.ErrRange {
				t.Fatal(weights, e)
			}
			continue
		}
		var total int64
		for i, p := range l {
			total += p.Amount
			down, up := scaled(n, weights[i], sum, api.Down), scaled(n, weights[i], sum, api.Up)
			if x := big.NewInt(p.Amount); x.Cmp(down) < 0 || x.Cmp(up) > 0 {
				t.Fatal(n, weights, l)
			}
		}
		if total != n || e != api.OK {
			t.Fatal(n, weights, l, e)
		}
	}
}

func TestTextsAreExact(t *testing.T) {
	r := rand.New(rand.NewSource(3))
	for range 5000 {
		m := api.Money{Amount: r.Int63n(1<<r.Intn(53)) - r.Int63n(1<<r.Intn(53)), Currency: []string{"USD", "JPY", "TND"}[r.Intn(3)]}
		if x, e := money.Parse(money.Format(m)); x != m || e != api.OK {
			t.Fatal(m, x, e)
		}
	}
}
