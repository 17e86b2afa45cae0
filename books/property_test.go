package books_test

import (
	"math/rand"
	"strconv"
	"testing"

	"cardnet/api"
	"cardnet/books"
	"cardnet/disk"
)

// randomOp returns an operation that often is possible.
func randomOp(r *rand.Rand, at int) books.Op {
	auth := "a" + strconv.Itoa(r.Intn(4))
	id := "i" + strconv.Itoa(r.Intn(40))
	switch kind := 1 + r.Intn(8); kind {
	case 1, 2:
		return books.Op{Kind: kind, At: at, Auth: auth, Amount: 1 + r.Int63n(500)}
	case 3:
		return books.Op{Kind: kind, At: at, Auth: auth, Amount: r.Int63n(200)}
	case 4:
		op := debt(kind, at, id, auth, 1+r.Int63n(300), 0)
		op.Final = r.Intn(3) == 0
		return op
	case 5:
		return debt(kind, at, id, "", 10+r.Int63n(100), r.Int63n(9))
	case 6:
		return debt(kind, at, id, "", 1+2*r.Int63n(50)-50, 0)
	case 7:
		return books.Op{Kind: kind, At: at, Auth: auth}
	default:
		return books.Op{Kind: kind, At: at, Amount: int64(at/86400 - 1 + r.Intn(3))}
	}
}

// TestReconstruction lets operations be performed and the disk crash: the books are always those after some first groups.
func TestReconstruction(t *testing.T) {
	r := rand.New(rand.NewSource(1))
	for range 150 {
		d, _ := disk.New(400)
		k, e := books.Open(setup(), d)
		if e != api.OK {
			t.Fatal(e)
		}
		at := 0
		var texts []string
		for range 60 {
			at += r.Intn(40000)
			if r.Intn(12) == 0 {
				d.Arm(1+r.Intn(9), r.Uint64())
			}
			var group []books.Op
			var more []string
			for range 1 + r.Intn(3) {
				op := randomOp(r, at)
				s, _ := books.Encode(op)
				group, more = append(group, op), append(more, s)
			}
			before := k.Books().Digest()
			e := k.Do(group)
			if e == api.OK {
				texts = append(texts, more...)
			} else if k.Books().Digest() != before {
				t.Fatal(e, "changed the books")
			}
			if e == api.ErrDown {
				d.Recover()
				if k, e = books.Open(setup(), d); e != api.OK {
					t.Fatal(e)
				}
				if k.Count() == len(texts)+len(more) {
					texts = append(texts, more...)
				}
			}
			if k.Count() != len(texts) {
				t.Fatal(k.Count(), len(texts))
			}
		}
		b, e := books.Replay(setup(), texts)
		if e != api.OK || !same(b, k.Books()) || b.Balance("party:homebank")+b.Balance("party:shopbank") != 0 {
			t.Fatal(e)
		}
	}
}
