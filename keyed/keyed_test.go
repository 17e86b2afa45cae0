package keyed_test

import (
	"math"
	"testing"

	"cardnet/api"
	"cardnet/checksum"
	"cardnet/keyed"
)

func mixed(h uint64) uint64 {
	h = h ^ h>>29
	h = h * 0xbf58476d1ce4e5b9
	return h ^ h>>32
}

func TestMac(t *testing.T) {
	key := "\x01\x02\x03\x04\x05\x06\x07\x08"
	for _, data := range []string{"", "a", "some data"} {
		if keyed.Mac(0x0102030405060708, data) != mixed(checksum.Hash(key+data+key)) {
			t.Error(data)
		}
		if keyed.Derive(0x0102030405060708, data) != mixed(checksum.Hash(key+"derive:"+data+key)) {
			t.Error(data)
		}
	}
	if keyed.Mac(1, "a") == keyed.Mac(2, "a") || keyed.Mac(1, "a") == keyed.Mac(1, "b") || keyed.Derive(1, "a") == keyed.Mac(1, "a") {
		t.Error("digests agree")
	}
}

func TestCode(t *testing.T) {
	for i, c := range []struct {
		mac    uint64
		digits int
		want   string
	}{{12345, 3, "345"}, {7, 4, "0007"}, {1000000000000, 12, "000000000000"}, {math.MaxUint64, 12, "073709551615"}, {0, 1, "0"}} {
		if s, e := keyed.Code(c.mac, c.digits); s != c.want || e != api.OK {
			t.Error(i, s, e)
		}
	}
	for _, n := range []int{0, 13, -1, math.MinInt} {
		if s, e := keyed.Code(5, n); s != "" || e != api.ErrRange {
			t.Error(n, s, e)
		}
	}
}

func TestVerify(t *testing.T) {
	for n := 1; n <= 12; n++ {
		s, _ := keyed.Code(keyed.Mac(9, "d"), n)
		other := string((s[0]-'0'+1)%10+'0') + s[1:]
		if !keyed.Verify(9, "d", s) || keyed.Verify(9, "d", other) {
			t.Error(n, s)
		}
	}
	long, _ := keyed.Code(keyed.Mac(9, "d"), 12)
	if keyed.Verify(9, "d", "") || keyed.Verify(9, "d", "0"+long) || keyed.Verify(9, "d", "a") {
		t.Error("no codes")
	}
}

func TestText(t *testing.T) {
	for n, want := range map[uint64]string{0: "0000000000000000", 255: "00000000000000ff", math.MaxUint64: "ffffffffffffffff"} {
		if keyed.Text(n) != want {
			t.Error(n, keyed.Text(n))
		}
		if x, e := keyed.Number(want); x != n || e != api.OK {
			t.Error(want, x, e)
		}
	}
	for _, s := range []string{"", "FF", "00000000000000FF", "0000000000000000f", "+000000000000000", "000000000000000g"} {
		if x, e := keyed.Number(s); x != 0 || e != api.ErrFormat {
			t.Error(s, x, e)
		}
	}
}
