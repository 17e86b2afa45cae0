package evidence_test

import (
	"math"
	"slices"
	"strings"
	"testing"

	"cardnet/api"
	"cardnet/checksum"
	"cardnet/evidence"
)

func TestCheck(t *testing.T) {
	for i, c := range []struct {
		x    api.Item
		want api.Errno
	}{
		{api.Item{Kind: "letter", Size: 1}, 0}, {api.Item{Kind: "A_9", Size: 1000000}, 0}, {api.Item{Kind: "azAZ09", Size: 1}, 0}, {api.Item{Kind: "Z", Size: 1}, 0}, {api.Item{Kind: "z", Size: 1}, 0}, {api.Item{Kind: "a", Size: 2}, 0}, {api.Item{Kind: "_", Size: 1}, api.ErrName}, {api.Item{Kind: "a`", Size: 1}, api.ErrName}, {api.Item{Kind: "a-b"}, api.ErrName}, {api.Item{Kind: "", Size: 1}, api.ErrName}, {api.Item{Kind: "9a", Size: 1}, api.ErrName}, {api.Item{Kind: "\u00e4", Size: 1}, api.ErrName}, {api.Item{Kind: "a\xff", Size: 1}, api.ErrName},
		{api.Item{Kind: strings.Repeat("a", 17), Size: 1}, api.ErrName}, {api.Item{Kind: strings.Repeat("a", 16), Size: 1}, 0}, {api.Item{Kind: "a"}, api.ErrRange}, {api.Item{Kind: "a", Size: 1000001}, api.ErrRange}, {api.Item{Kind: "a", Size: -1}, api.ErrRange},
	} {
		if e := evidence.Check(c.x); e != c.want {
			t.Error(i, e)
		}
	}
	if x, e := evidence.Describe("letter", "abc"); x != (api.Item{Kind: "letter", Size: 3, Hash: checksum.Hash("abc")}) || e != api.OK {
		t.Error(x, e)
	}
	long := strings.Repeat("x", 4001)
	for i, c := range []struct {
		kind, contents string
		want           api.Errno
	}{{"", "", api.ErrName}, {"a", "", api.ErrShort}, {"a", long, api.ErrLong}, {"a-", long, api.ErrName}} {
		if x, e := evidence.Describe(c.kind, c.contents); x != (api.Item{}) || e != c.want {
			t.Error(i, x, e)
		}
	}
	if x, e := evidence.Describe("a", long[1:]); x.Size != 4000 || e != api.OK {
		t.Error(x, e)
	}
}

func TestFolder(t *testing.T) {
	f := evidence.New()
	letter, _ := evidence.Describe("letter", "abc")
	photo := api.Item{Kind: "photo", Size: 7, Hash: math.MaxUint64}
	if f.Digest() != 0 || f.Add(letter) != api.OK || f.Add(letter) != api.ErrExists || f.Add(api.Item{Kind: "letter"}) != api.ErrRange {
		t.Error("Add")
	}
	if l := f.Missing([]string{"letter", "photo", "x", "photo"}); !slices.Equal(l, []string{"photo", "x"}) || len(f.Missing(nil)) != 0 {
		t.Error(l)
	}
	if !f.Verify("letter", "abc") || f.Verify("letter", "abd") || f.Verify("photo", "abc") || f.Verify("", "abc") || f.Verify("letter", "") {
		t.Error("Verify")
	}
	f.Add(photo)
	if len(f.Missing([]string{"photo"})) != 0 {
		t.Error("complete")
	}
	g := evidence.New()
	g.Add(photo)
	g.Add(letter)
	if f.Digest() != g.Digest() || f.Digest() != checksum.Hash("photo/7/18446744073709551615")+checksum.Hash("letter/3/16654208175385433931") {
		t.Error(f.Digest())
	}
	l := f.Items()
	l[0].Kind = "changed"
	if l := f.Items(); !slices.Equal(l, []api.Item{letter, photo}) {
		t.Error(l)
	}
	for i := range 14 {
		f.Add(api.Item{Kind: "a", Size: i + 1})
	}
	if f.Add(letter) != api.ErrFull || len(f.Items()) != 16 || f.Add(api.Item{}) != api.ErrName {
		t.Error("room")
	}
	var none *evidence.Folder
	if none.Add(letter) != api.ErrNone || len(none.Items()) != 0 || len(none.Missing([]string{"a"})) != 0 || none.Verify("letter", "abc") || none.Digest() != 0 {
		t.Error("nil folder")
	}
}
