package disk_test

import (
	"math"
	"strings"
	"testing"

	"cardnet/api"
	"cardnet/disk"
)

func start(t *testing.T, blocks int) *disk.Disk {
	d, e := disk.New(blocks)
	if e != api.OK {
		t.Fatal(e)
	}
	return d
}

func read(t *testing.T, d *disk.Disk, want ...string) {
	t.Helper()
	for n, s := range want {
		if got, e := d.Read(n); got != s || e != api.OK {
			t.Error(n, got, e)
		}
	}
}

func TestWrite(t *testing.T) {
	for n, want := range map[int]api.Errno{0: api.ErrRange, 1: 0, 4096: 0, 4097: api.ErrRange, -1: api.ErrRange} {
		if d, e := disk.New(n); e != want || (d == nil) != (e != api.OK) || d.Blocks() != map[bool]int{true: n, false: 0}[e == api.OK] {
			t.Error(n, e)
		}
	}
	d := start(t, 2)
	long := strings.Repeat("x", 65)
	for i, c := range []struct{ got, want api.Errno }{{d.Write(-1, long), api.ErrRange}, {d.Write(2, long), api.ErrRange}, {d.Write(0, long), api.ErrLong}, {d.Write(0, long[1:]), 0}, {d.Write(1, "b"), 0}, {d.Write(1, "c"), 0}} {
		if c.got != c.want {
			t.Error(i, c.got)
		}
	}
	read(t, d, long[1:], "c")
	if s, e := d.Read(2); s != "" || e != api.ErrRange || d.Pending() != 3 || d.Flush() != api.OK || d.Pending() != 0 {
		t.Error(s, e)
	}
	for range 4096 {
		d.Write(0, "y")
	}
	if d.Write(0, "z") != api.ErrFull || d.Write(0, long) != api.ErrLong || d.Pending() != 4096 || d.Flush() != api.OK || d.Write(0, "z") != api.OK {
		t.Error("room")
	}
}

func TestCrash(t *testing.T) {
	d := start(t, 2)
	d.Write(0, "a")
	d.Flush()
	d.Write(0, "b")
	d.Write(1, "c")
	if d.Recover() != api.ErrState || d.Crash(2) != api.OK || !d.Down() || d.Pending() != 0 {
		t.Error("Crash")
	}
	_, e := d.Read(9)
	for i, e := range []api.Errno{e, d.Write(9, ""), d.Flush(), d.Crash(0), d.Arm(-1, 0)} {
		if e != api.ErrDown {
			t.Error(i, e)
		}
	}
	if d.Recover() != api.OK || d.Down() || d.Recover() != api.ErrState {
		t.Error("Recover")
	}
	read(t, d, "a", "c")
	// The bits repeat after 64 writes, and the last surviving write counts.
	for i := range 130 {
		d.Write(0, string(rune('a'+i%26)))
	}
	d.Crash(1<<1 | 1<<5)
	d.Recover()
	read(t, d, string(rune('a'+129%26)), "c")
	d.Write(0, "x")
	d.Write(0, "y")
	d.Write(1, "z")
	d.Crash(1)
	d.Recover()
	read(t, d, "x", "c")
	d.Write(0, "p")
	d.Write(1, "q")
	d.Crash(math.MaxUint64)
	d.Recover()
	read(t, d, "p", "q")
	d.Write(0, "r")
	d.Crash(0)
	d.Recover()
	read(t, d, "p", "q")
}

func TestArm(t *testing.T) {
	d := start(t, 2)
	if d.Arm(-1, 0) != api.ErrRange || d.Arm(1000001, 0) != api.ErrRange || d.Arm(1000000, 0) != api.OK || d.Arm(1, 0) != api.OK {
		t.Error("Arm")
	}
	if d.Write(9, "") != api.ErrRange || d.Write(0, "lost") != api.ErrDown || !d.Down() || d.Recover() != api.OK {
		t.Error("a Write crashes the disk")
	}
	read(t, d, "")
	d.Arm(2, 3)
	if d.Write(0, "a") != api.OK || d.Write(1, "b") != api.ErrDown || d.Recover() != api.OK {
		t.Error("the second Write crashes the disk")
	}
	read(t, d, "a", "b")
	d.Arm(2, 0)
	if d.Write(0, "lost") != api.OK || d.Flush() != api.ErrDown || d.Recover() != api.OK {
		t.Error("a Flush crashes the disk")
	}
	read(t, d, "a", "b")
	d.Arm(1, 0)
	d.Arm(0, 0)
	if d.Flush() != api.OK {
		t.Error("disarmed")
	}
	d.Arm(1, 0)
	d.Crash(0)
	d.Recover()
	if d.Flush() != api.OK {
		t.Error("a crash disarms")
	}
	var none *disk.Disk
	if s, e := none.Read(0); s != "" || e != api.ErrNone || none.Write(0, "") != e || none.Flush() != e || none.Crash(0) != e || none.Arm(0, 0) != e || none.Recover() != e || none.Blocks() != 0 || none.Pending() != 0 || none.Down() {
		t.Error("nil disk")
	}
}
