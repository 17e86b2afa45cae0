package journal_test

import (
	"math/rand"
	"slices"
	"strings"
	"testing"

	"cardnet/api"
	"cardnet/disk"
	"cardnet/journal"
)

// TestEveryCrash lets a disk crash at random: what is found are some first groups, among them all that were completed.
func TestEveryCrash(t *testing.T) {
	r := rand.New(rand.NewSource(1))
	for range 2000 {
		d, _ := disk.New(60)
		j := open(t, d)
		var groups [][]string
		completed := 0
		for range 8 {
			if r.Intn(4) == 0 {
				d.Arm(1+r.Intn(8), r.Uint64())
			}
			var group []string
			for range 1 + r.Intn(3) {
				record := strings.Repeat(string(rune('a'+r.Intn(26))), r.Intn(120))
				if j.Append(record) == api.OK {
					group = append(group, record)
				}
			}
			e := j.Commit()
			if len(group) > 0 {
				groups = append(groups, group)
			}
			if e == api.OK {
				completed = len(groups)
				continue
			}
			if e == api.ErrState {
				continue
			}
			d.Recover()
			j = open(t, d)
			if n := j.Groups(); n < completed || n > len(groups) || !slices.Equal(j.Records(), slices.Concat(groups[:n]...)) {
				t.Fatal(n, completed, len(groups))
			}
			groups = groups[:j.Groups()]
			completed = len(groups)
		}
		again, e := journal.Open(d)
		if e == api.OK && (again.Head() != j.Head() || again.Room() != j.Room() || !slices.Equal(again.Records(), j.Records())) {
			t.Fatal("opening")
		}
	}
}
