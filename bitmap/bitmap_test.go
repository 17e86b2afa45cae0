package bitmap_test

import (
	"math"
	"slices"
	"testing"

	"cardnet/api"
	"cardnet/bitmap"
)

func of(l ...int) api.Bitmap {
	b, _ := bitmap.Of(l)
	return b
}

var full = api.Bitmap{math.MaxUint64, math.MaxUint64}

func TestSets(t *testing.T) {
	b := of(2, 64, 65, 128)
	if b != (api.Bitmap{1<<62 | 1, 1<<63 | 1}) {
		t.Error(b)
	}
	if !slices.Equal(bitmap.List(b), []int{2, 64, 65, 128}) || bitmap.Count(b) != 4 || bitmap.Count(full) != 127 || len(bitmap.List(full)) != 127 {
		t.Error(bitmap.List(b), bitmap.Count(b), bitmap.Count(full))
	}
	for n, want := range map[int]bool{2: true, 3: false, 1: false, 0: false, 128: true, 129: false, -1: false, math.MinInt: false} {
		if bitmap.Has(b, n) != want {
			t.Error(n)
		}
	}
	if bitmap.Has(full, 1) || bitmap.List(full)[0] != 2 {
		t.Error("the bit of 1 is not a number")
	}
	if x, e := bitmap.Set(api.Bitmap{1 << 63, 0}, 3); x != of(3) || e != api.OK {
		t.Error(x, e)
	}
	if x, e := bitmap.Clear(full, 3); bitmap.Count(x) != 126 || bitmap.Has(x, 3) || x[0]>>63 != 0 || e != api.OK {
		t.Error(x, e)
	}
	if x, e := bitmap.Clear(of(2), 3); x != of(2) || e != api.OK {
		t.Error(x, e)
	}
	for _, n := range []int{1, 0, -5, 129, math.MaxInt, math.MinInt} {
		x, e1 := bitmap.Set(full, n)
		y, e2 := bitmap.Clear(full, n)
		z, e3 := bitmap.Of([]int{2, n})
		if x != y || y != z || z != (api.Bitmap{}) || e1 != api.ErrRange || e2 != e1 || e3 != e1 {
			t.Error(n, x, y, z, e1, e2, e3)
		}
	}
	if of(5, 5) != of(5) || of() != (api.Bitmap{}) {
		t.Error("repeated numbers")
	}
	if bitmap.Union(of(2, 3), of(3, 100)) != of(2, 3, 100) || bitmap.Minus(of(2, 3), of(3, 100)) != of(2) {
		t.Error("union, minus")
	}
	if x := bitmap.Union(full, full); bitmap.Count(x) != 127 || x[0]>>63 != 0 || bitmap.Minus(full, of())[0]>>63 != 0 {
		t.Error(x)
	}
	if of(bitmap.List(full)...) != bitmap.Union(full, of()) || bitmap.Count(bitmap.Union(b, full)) != bitmap.Count(b)+bitmap.Count(bitmap.Minus(full, b)) {
		t.Error("P5.7")
	}
}

func TestText(t *testing.T) {
	for s, b := range map[string]api.Bitmap{
		"6000000000000001": of(2, 3, 64), "c0000000000000008000000000000000": of(2, 65), "0000000000000000": of(),
		"80000000000000000000000000000001": of(128), "7fffffffffffffff": bitmap.Minus(full, api.Bitmap{0, math.MaxUint64}),
	} {
		if bitmap.Encode(b) != s {
			t.Error(s, bitmap.Encode(b))
		}
		if x, n, e := bitmap.Decode(s + "0rest"); x != b || n != len(s) || e != api.OK {
			t.Error(s, x, n, e)
		}
	}
	if bitmap.Encode(full) != "ffffffffffffffffffffffffffffffff" || bitmap.Encode(api.Bitmap{1 << 63, 0}) != "0000000000000000" {
		t.Error(bitmap.Encode(full))
	}
	for s, want := range map[string]api.Errno{
		"": api.ErrShort, "600000000000000": api.ErrShort, "600000000000000g": api.ErrFormat, "600000000000000A": api.ErrFormat,
		"8000000000000000": api.ErrShort, "8000000000000000000000000000000": api.ErrShort, "80000000000000000000000000000000": api.ErrFormat,
		"8000000000000000000000000000000x": api.ErrFormat, "x": api.ErrShort, "+000000000000000": api.ErrFormat,
	} {
		if x, n, e := bitmap.Decode(s); x != (api.Bitmap{}) || n != 0 || e != want {
			t.Error(s, x, n, e)
		}
	}
}
