package checksum_test

import (
	"hash/crc32"
	"hash/fnv"
	"math/rand"
	"testing"

	"cardnet/api"
	"cardnet/checksum"
)

func TestAgainstLibrary(t *testing.T) {
	r := rand.New(rand.NewSource(1))
	for range 2000 {
		b := make([]byte, r.Intn(100))
		r.Read(b)
		h := fnv.New64a()
		h.Write(b)
		if checksum.Crc(string(b)) != crc32.ChecksumIEEE(b) || checksum.Hash(string(b)) != h.Sum64() {
			t.Fatal(b)
		}
		if s, e := checksum.Open(checksum.Seal(string(b))); s != string(b) || e != api.OK {
			t.Fatal(b)
		}
	}
}
