package velocity_test

import (
	"math/rand"
	"testing"

	"cardnet/api"
	"cardnet/velocity"
)

// TestExactness compares counts and sums with all uses that were added and not removed.
func TestExactness(t *testing.T) {
	type use struct {
		key    string
		at     int
		amount int64
	}
	r := rand.New(rand.NewSource(1))
	for range 100 {
		horizon := 1 + r.Intn(50)
		w, _ := velocity.New(horizon)
		var uses []use
		at := 0
		for range 200 {
			key := string(rune('a' + r.Intn(3)))
			at += r.Intn(8)
			if r.Intn(6) == 0 && len(uses) > 0 {
				u := uses[r.Intn(len(uses))]
				if u.at > at-horizon {
					if e := w.Remove(u.key, u.at, u.amount); e != api.OK {
						t.Fatal(e)
					}
					for i := len(uses) - 1; i >= 0; i-- {
						if uses[i] == u {
							uses = append(uses[:i:i], uses[i+1:]...)
							break
						}
					}
				}
			} else {
				u := use{key, at, int64(r.Intn(3))}
				if e := w.Add(u.key, u.at, u.amount); e != api.OK {
					t.Fatal(e)
				}
				uses = append(uses, u)
			}
			window := 1 + r.Intn(horizon)
			count, sum := 0, int64(0)
			for _, u := range uses {
				if u.key == key && u.at > at-window {
					count++
					sum += u.amount
				}
			}
			if w.Count(key, at, window) != count || w.Sum(key, at, window) != sum {
				t.Fatal(at, window, count, sum)
			}
		}
	}
}
