package checksum_test

import (
	"strings"
	"testing"

	"cardnet/api"
	"cardnet/checksum"
)

func TestCrcHash(t *testing.T) {
	for s, want := range map[string]uint32{"": 0, "123456789": 0xcbf43926, "a": 0xe8b7be43, "\x00": 0xd202ef8d, "\xff\xff\xff\xff": 0xffffffff} {
		if checksum.Crc(s) != want {
			t.Errorf("%q %x", s, checksum.Crc(s))
		}
	}
	for s, want := range map[string]uint64{"": 0xcbf29ce484222325, "a": 0xaf63dc4c8601ec8c, "foobar": 0x85944171f73967e8} {
		if checksum.Hash(s) != want {
			t.Errorf("%q %x", s, checksum.Hash(s))
		}
	}
	if checksum.Chain(0x0102030405060708, "x") != checksum.Hash("\x01\x02\x03\x04\x05\x06\x07\x08x") || checksum.Chain(0, "") != checksum.Hash("\x00\x00\x00\x00\x00\x00\x00\x00") {
		t.Error("Chain")
	}
}

// TestDetection changes the bits of each burst of up to 32 bits that begins at each place.
func TestDetection(t *testing.T) {
	s := "some bytes"
	for start := 0; start < 8*len(s); start++ {
		for _, pattern := range []uint64{1, 0x80000001, 0xffffffff, 0xdb710641, 0xb} {
			b := []byte(s)
			for j := 0; j < 32 && start+j < 8*len(s); j++ {
				if pattern>>j&1 == 1 {
					b[(start+j)/8] ^= 1 << ((start + j) % 8)
				}
			}
			if checksum.Crc(string(b)) == checksum.Crc(s) {
				t.Error(start, pattern)
			}
		}
	}
}

func TestTotal(t *testing.T) {
	for i, c := range []struct {
		l    []string
		want int64
	}{
		{nil, 0}, {[]string{"4000000000000077", "99x9999999"}, 10000076}, {[]string{"12", ""}, 12}, {[]string{"1x2"}, 102},
		{[]string{"99999999", "99999999", "2"}, 0}, {[]string{"999999999"}, 99999999}, {[]string{"\xff1"}, 1},
	} {
		if n := checksum.Total(c.l); n != c.want {
			t.Error(i, n)
		}
	}
	a, b := []string{"87654321", "5"}, []string{"99999999"}
	if checksum.Total(append(a, b...)) != (checksum.Total(a)+checksum.Total(b))%100000000 || checksum.Total([]string{"5", "87654321"}) != checksum.Total(a) {
		t.Error("P7.9")
	}
}

func TestSeal(t *testing.T) {
	if checksum.Seal("a") != "ae8b7be43" || checksum.Seal("") != "00000000" {
		t.Error(checksum.Seal("a"), checksum.Seal(""))
	}
	for _, s := range []string{"", "a", strings.Repeat("xyz", 99)} {
		if x, e := checksum.Open(checksum.Seal(s)); x != s || e != api.OK {
			t.Error(x, e)
		}
	}
	for s, want := range map[string]api.Errno{"": api.ErrShort, "8b7be43": api.ErrShort, "ae8b7be44": api.ErrChecksum, "aE8B7BE43": api.ErrChecksum, "be8b7be43": api.ErrChecksum} {
		if x, e := checksum.Open(s); x != "" || e != want {
			t.Error(s, x, e)
		}
	}
}
