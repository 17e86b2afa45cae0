package auth_test

import (
	"math/rand"
	"testing"

	"cardnet/api"
	"cardnet/auth"
)

func TestConservation(t *testing.T) {
	r := rand.New(rand.NewSource(1))
	for range 3000 {
		a := thousand(t)
		for range 12 {
			amount, until := r.Int63n(700), 80+r.Intn(40)
			before := auth.Open(a)
			var x api.Auth
			var e api.Errno
			change := int64(0)
			switch r.Intn(6) {
			case 0:
				x, e = auth.Raise(a, amount, until)
				change = amount
			case 1:
				var n int64
				x, n, e = auth.Reverse(a, amount)
				change = -n
			case 2:
				var n int64
				x, n, e = auth.Expire(a, until)
				change = -n
			default:
				var used, released int64
				x, used, released, e = auth.Clear(a, amount, r.Intn(5) == 0)
				change = -used - released
			}
			if a.State != api.AuthOpen && e != api.ErrState {
				t.Fatal(a, x, e)
			}
			if e != api.OK {
				continue
			}
			y, code := auth.Decode(auth.Encode(x))
			if auth.Check(x) != api.OK || auth.Open(x) != before+change || x.Approved != x.Reversed+x.Cleared+x.Expired+auth.Open(x) || y != x || code != api.OK {
				t.Fatal(a, x, change)
			}
			if x.Reversed < a.Reversed || x.Cleared < a.Cleared || x.Expired < a.Expired {
				t.Fatal(a, x)
			}
			a = x
		}
	}
}
