package journal_test

import (
	"slices"
	"strconv"
	"strings"
	"testing"

	"cardnet/api"
	"cardnet/checksum"
	"cardnet/disk"
	"cardnet/journal"
	"cardnet/plain"
)

func open(t *testing.T, d *disk.Disk) *journal.Journal {
	t.Helper()
	j, e := journal.Open(d)
	if e != api.OK {
		t.Fatal(e)
	}
	return j
}

func fresh(t *testing.T, blocks int) (*disk.Disk, *journal.Journal) {
	t.Helper()
	d, _ := disk.New(blocks)
	return d, open(t, d)
}

// keep commits a group of records.
func keep(t *testing.T, j *journal.Journal, records ...string) {
	t.Helper()
	for _, r := range records {
		if e := j.Append(r); e != api.OK {
			t.Fatal(e)
		}
	}
	if e := j.Commit(); e != api.OK {
		t.Fatal(e)
	}
}

// chained returns a block after a hash.
func chained(prev uint64, rest string) string {
	digits := strings.Repeat("0", 16) + strconv.FormatUint(checksum.Chain(prev, rest), 16)
	return digits[len(digits)-16:] + rest
}

func TestBlocks(t *testing.T) {
	one, e := journal.Blocks(0, []string{"a"})
	if len(one) != 1 || one[0] != chained(0, ".050001a") || e != api.OK {
		t.Error(one, e)
	}
	long := strings.Repeat("x", 100)
	l, e := journal.Blocks(7, []string{long})
	h := checksum.Chain(7, "+450100"+long[:41])
	g := checksum.Chain(h, "+45"+long[:45])
	want := []string{chained(7, "+450100"+long[:41]), chained(h, "+45"+long[:45]), chained(g, ".14"+long[:14])}
	if !slices.Equal(l, want) || e != api.OK {
		t.Error(l, e)
	}
	if l, e := journal.Blocks(0, []string{"", ""}); len(l) != 1 || !strings.HasSuffix(l[0], ".0800000000") || e != api.OK {
		t.Error(l, e)
	}
	if l, e := journal.Blocks(0, []string{strings.Repeat("x", 86)}); len(l) != 2 || len(l[1]) != disk.Size || e != api.OK {
		t.Error(l, e)
	}
	many := make([]string, 257)
	tooLong := []string{strings.Repeat("x", 4001)}
	for i, c := range []struct {
		l    []string
		want api.Errno
	}{{nil, api.ErrState}, {many, api.ErrFull}, {many[:256], 0}, {tooLong, api.ErrLong}, {slices.Repeat(tooLong, 257), api.ErrFull}, {[]string{strings.Repeat("x", 4000)}, 0}} {
		if l, e := journal.Blocks(0, c.l); e != c.want || (len(l) == 0) != (e != api.OK) {
			t.Error(i, e)
		}
	}
}

func TestCommit(t *testing.T) {
	d, j := fresh(t, 20)
	if j.Commit() != api.ErrState || j.Head() != 0 || j.Room() != 20 {
		t.Error("an empty journal")
	}
	keep(t, j, "a", "", strings.Repeat("x", 100))
	keep(t, j, "b|\n\x00")
	j.Append("dropped")
	j.Drop()
	j.Append("pending")
	if j.Pending() != 1 || j.Groups() != 2 || !slices.Equal(j.Records(), []string{"a", "", strings.Repeat("x", 100), "b|\n\x00"}) || j.Room() != 16 {
		t.Error(j.Pending(), j.Groups(), j.Room(), j.Records())
	}
	k := open(t, d)
	if k.Pending() != 0 || k.Groups() != 2 || !slices.Equal(k.Records(), j.Records()) || k.Room() != j.Room() || k.Head() != j.Head() || k.Head() == 0 {
		t.Error(k.Records())
	}
	l := k.Records()
	l[0] = "changed"
	if k.Records()[0] != "a" {
		t.Error("shared memory")
	}
}

func TestAppend(t *testing.T) {
	_, j := fresh(t, 2)
	long := strings.Repeat("x", 4001)
	for i, c := range []struct{ got, want api.Errno }{{j.Append(long), api.ErrLong}, {j.Append(long[:87]), api.ErrFull}, {j.Append(long[:86]), 0}, {j.Append(""), api.ErrFull}, {j.Commit(), 0}, {j.Append(""), api.ErrFull}} {
		if c.got != c.want {
			t.Error(i, c.got)
		}
	}
	_, j = fresh(t, 4096)
	for i := range 257 {
		want := api.OK
		if i == 256 {
			want = api.ErrFull
		}
		if e := j.Append("x"); e != want {
			t.Error(i, e)
		}
	}
	if j.Commit() != api.OK || j.Append("y") != api.OK {
		t.Error("a new group")
	}
}

func TestCrash(t *testing.T) {
	// A crash at every step, with several masks: the groups that were completed remain, and no part of another one.
	for steps := 1; steps <= 4; steps++ {
		for _, mask := range []uint64{0, 1, 2, 3, 4, 5, 6, 7, 8, ^uint64(0)} {
			d, j := fresh(t, 20)
			keep(t, j, "first")
			d.Arm(steps, mask)
			j.Append(strings.Repeat("y", 100))
			e := j.Commit()
			if e != api.ErrDown || j.Append("z") != api.ErrDown || j.Commit() != api.ErrDown || j.Pending() != 0 || j.Groups() != 1 {
				t.Error(steps, mask, e)
			}
			if x, e := journal.Open(d); x != nil || e != api.ErrDown {
				t.Error(x, e)
			}
			d.Recover()
			k := open(t, d)
			complete := steps == 3 && mask&7 == 7 || steps == 4 && mask&7 == 7
			if want := map[bool]int{true: 2, false: 1}[complete]; k.Groups() != want || len(k.Records()) != want || k.Records()[0] != "first" {
				t.Error(steps, mask, k.Groups(), k.Records())
			}
			keep(t, k, "third")
			if l := open(t, d).Records(); l[len(l)-1] != "third" {
				t.Error(steps, mask, l)
			}
		}
	}
}

func TestForeignBlocks(t *testing.T) {
	block := func(prev uint64, mark, payload string) string {
		return chained(prev, mark+plain.Digits(int64(len(payload)), 2)+payload)
	}
	full := strings.Repeat("0000", 11)
	for i, c := range []struct {
		blocks []string
		groups int
	}{
		{[]string{block(0, ".", "0001a")}, 1}, {[]string{block(0, ".", "0001a") + "x"}, 0}, {[]string{block(0, ".", "")}, 0}, {[]string{block(0, ".", "0001")}, 0}, {[]string{block(0, ".", "0001ab")}, 0}, {[]string{block(0, "+", "0001a")}, 0}, {[]string{block(0, "x", "0001a")}, 0}, {[]string{block(1, ".", "0001a")}, 0}, {[]string{"", block(0, ".", "0001a")}, 0},
		{[]string{strings.ToUpper(block(0, ".", "0001a"))}, 0}, {[]string{block(0, ".", "4001")}, 0}, {[]string{block(0, ".", "-001a")}, 0}, {[]string{block(0, "+", full+"0")}, 0}, {[]string{block(0, "+", full+"0"), block(checksum.Chain(0, "+45"+full+"0"), ".", "000")}, 1}, {[]string{block(0, ".", "0001a"), block(0, ".", "0001a")}, 1},
		{[]string{block(0, ".", "0000"), block(checksum.Chain(0, ".040000"), ".", "0001b")}, 2},
	} {
		d, _ := disk.New(3)
		for n, s := range c.blocks {
			d.Write(n, s)
		}
		if j := open(t, d); j.Groups() != c.groups {
			t.Error(i, j.Groups(), j.Records())
		}
	}
}

func TestNone(t *testing.T) {
	if j, e := journal.Open(nil); j != nil || e != api.ErrNone {
		t.Error(j, e)
	}
	var j *journal.Journal
	j.Drop()
	if j.Append("") != api.ErrNone || j.Commit() != api.ErrNone || len(j.Records()) != 0 || j.Groups() != 0 || j.Pending() != 0 || j.Room() != 0 || j.Head() != 0 {
		t.Error("nil journal")
	}
	new(journal.Journal).Append("")
	// A journal that has stopped stays so.
	d, k := fresh(t, 3)
	k.Append("a")
	d.Crash(0)
	if k.Commit() != api.ErrDown || d.Recover() != api.OK || k.Append("a") != api.ErrDown || k.Room() != 3 {
		t.Error("stopped")
	}
	k.Drop()
}

// laid returns the number of groups on a disk with these blocks, given as what follows the hash of each.
func laid(t *testing.T, rests ...string) int {
	t.Helper()
	d, _ := disk.New(200)
	prev := uint64(0)
	for n, rest := range rests {
		if e := d.Write(n, chained(prev, rest)); e != api.OK {
			t.Fatal(e)
		}
		prev = checksum.Chain(prev, rest)
	}
	return open(t, d).Groups()
}

// cut returns a stream in payloads, with marks and lengths.
func cut(stream string) []string {
	var rests []string
	for len(stream) > 45 {
		rests = append(rests, "+45"+stream[:45])
		stream = stream[45:]
	}
	return append(rests, "."+plain.Digits(int64(len(stream)), 2)+stream)
}

func TestGroupForms(t *testing.T) {
	record := "0041" + strings.Repeat("x", 41)
	for i, c := range []struct {
		rests  []string
		groups int
	}{
		{[]string{".45" + record}, 1}, {[]string{"+45" + record, ".00"}, 0}, {[]string{"+040001", ".01a"}, 0}, {[]string{"x45" + record, ".040000"}, 0}, {[]string{"+45" + record, ".040000"}, 1}, {[]string{".040001"}, 0}, {[]string{".0x0000"}, 0}, {[]string{".030000"}, 0}, {[]string{".050000"}, 0},
		{cut("4000" + strings.Repeat("y", 4000)), 1}, {cut("4001" + strings.Repeat("y", 4001)), 0}, {cut(strings.Repeat("0000", 256)), 1}, {cut(strings.Repeat("0000", 257)), 0}, {append(cut("0001a"), cut("0001b")...), 2}, {append(cut("0001a"), "x0"), 1},
	} {
		if n := laid(t, c.rests...); n != c.groups {
			t.Error(i, n)
		}
	}
}

func TestDrop(t *testing.T) {
	_, j := fresh(t, 3)
	j.Append("a")
	j.Drop()
	if j.Pending() != 0 || j.Commit() != api.ErrState || j.Append("b") != api.OK || j.Commit() != api.OK || !slices.Equal(j.Records(), []string{"b"}) {
		t.Error(j.Records())
	}
}
