package netting_test

import (
	"math/rand"
	"slices"
	"testing"

	"cardnet/api"
	"cardnet/netting"
)

func TestEverySettlement(t *testing.T) {
	r := rand.New(rand.NewSource(1))
	for range 3000 {
		var l []api.Position
		for _, currency := range []string{"EUR", "USD"}[:1+r.Intn(2)] {
			var sum int64
			n := r.Intn(7)
			for i := range n {
				amount := r.Int63n(1<<r.Intn(20)) - r.Int63n(1<<r.Intn(20))
				if i == n-1 {
					amount = -sum
				}
				sum += amount
				l = append(l, pos(string(rune('a'+i)), amount, currency))
			}
		}
		x, e := netting.Settle(l)
		if e != api.OK || !netting.Valid(l, x) {
			t.Fatal(l, x, e)
		}
		for _, currency := range []string{"EUR", "USD"} {
			check(t, l, x, currency)
		}
		r.Shuffle(len(l), func(i, j int) { l[i], l[j] = l[j], l[i] })
		if y, _ := netting.Settle(l); !slices.Equal(x, y) {
			t.Fatal(l, x, y)
		}
	}
}

// check examines the transfers of a currency: there are few, and each party either pays or receives.
func check(t *testing.T, l []api.Position, x []api.Transfer, currency string) {
	t.Helper()
	parties, transfers, received := 0, 0, int64(0)
	for _, p := range l {
		if p.Net.Currency == currency && p.Net.Amount != 0 {
			parties++
			received += max(p.Net.Amount, 0)
		}
	}
	pays, receives := map[string]bool{}, map[string]bool{}
	for _, p := range x {
		if p.Amount.Currency == currency {
			transfers++
			pays[p.From], receives[p.To] = true, true
		}
	}
	for p := range pays {
		if receives[p] {
			t.Fatal(l, x)
		}
	}
	if parties > 0 && transfers >= parties || netting.Volume(x, currency) != received {
		t.Fatal(l, x)
	}
}
