package position_test

import (
	"math/rand"
	"slices"
	"testing"

	"cardnet/api"
	"cardnet/position"
)

func TestSumsAreZero(t *testing.T) {
	r := rand.New(rand.NewSource(1))
	parties := []string{"a", "b", "c", "d"}
	rates := []api.Rate{rt("EUR", "USD", 11, 10), rt("GBP", "EUR", 7, 6), rt("USD", "JPY", 31, 3)}
	type move struct {
		from, to string
		m        api.Money
	}
	for range 1000 {
		b, other := book(t), book(t)
		var moves []move
		for range r.Intn(12) {
			x := move{parties[r.Intn(4)], parties[r.Intn(4)], api.Money{Amount: r.Int63n(1 << r.Intn(30)), Currency: []string{"EUR", "USD", "GBP"}[r.Intn(3)]}}
			if b.Move(x.from, x.to, x.m) == api.OK {
				moves = append(moves, x)
			}
		}
		r.Shuffle(len(moves), func(i, j int) { moves[i], moves[j] = moves[j], moves[i] })
		for _, x := range moves {
			other.Move(x.from, x.to, x.m)
		}
		if !slices.Equal(b.List(), other.List()) {
			t.Fatal(b.List(), other.List())
		}
		for _, currency := range b.Currencies() {
			if position.Sum(b.List(), currency) != 0 {
				t.Fatal(b.List())
			}
		}
		for _, to := range []string{"EUR", "USD", "GBP"} {
			l, e := b.Convert(rates, to, "EUR")
			if e != api.OK || position.Sum(l, to) != 0 {
				t.Fatal(to, l, e)
			}
		}
		for _, x := range moves {
			b.Move(x.to, x.from, x.m)
		}
		if len(b.List()) != 0 {
			t.Fatal(b.List())
		}
	}
}
