package batch_test

import (
	"reflect"
	"slices"
	"strconv"
	"strings"
	"testing"

	"cardnet/api"
	"cardnet/batch"
	"cardnet/checksum"
)

func rec(id string, kind int, amount int64) api.Record {
	return api.Record{Kind: kind, Id: id, Acquirer: "shop", Issuer: "home", Merchant: "m", Card: "4000000000000077", Amount: api.Money{Amount: amount, Currency: "EUR"}, Date: 12, Category: 5411}
}

func sample() api.Batch {
	return api.Batch{Id: "F20-1", Sender: "shop", Date: 20, Records: []api.Record{rec("a", api.RcPresent, 100), rec("b", api.RcRefund, 30)}}
}

// seal completes the header and the record lines of a file with a trailer and its check line.
func seal(s string) string {
	digits := "0000000" + strconv.FormatUint(uint64(checksum.Crc(s)), 16)
	return s + "C|" + digits[len(digits)-8:] + "\n"
}

func TestSum(t *testing.T) {
	l := []api.Record{rec("a", 1, 100), rec("b", 2, 30), rec("c", 3, 5), rec("d", 4, 7), rec("e", 0, 99), rec("f", 1, -1), rec("g", 1, api.MaxAmount+1), rec("h", 1, api.MaxAmount), {Card: "99x9999999"}}
	if s := batch.Sum(l); s != (batch.Totals{9, 107 + api.MaxAmount, 35, (77*8 + 9999999) % 100000000}) {
		t.Error(s)
	}
	if batch.Sum(nil) != (batch.Totals{}) {
		t.Error(batch.Sum(nil))
	}
}

func TestCheck(t *testing.T) {
	for i, c := range []struct {
		change func(b *api.Batch)
		want   api.Errno
	}{
		{func(b *api.Batch) {}, 0}, {func(b *api.Batch) { b.Id, b.Date = "a b", -1 }, api.ErrName}, {func(b *api.Batch) { b.Sender = "a-b" }, api.ErrName}, {func(b *api.Batch) { b.Date, b.Records = -1, make([]api.Record, 201) }, api.ErrTime}, {func(b *api.Batch) { b.Date = api.MaxDate + 1 }, api.ErrTime},
		{func(b *api.Batch) { b.Records = make([]api.Record, 201) }, api.ErrLong}, {func(b *api.Batch) { b.Records[1].Card = "x" }, api.ErrCard}, {func(b *api.Batch) { b.Records[0].Acquirer, b.Records[1].Kind = "other", 0 }, api.ErrName}, {func(b *api.Batch) { b.Records[1].Id = "a" }, api.ErrExists},
		{func(b *api.Batch) { b.Records = nil }, 0},
	} {
		b := sample()
		c.change(&b)
		s, e := batch.Encode(b)
		if batch.Check(b) != c.want || e != c.want || (s == "") != (e != api.OK) {
			t.Error(i, batch.Check(b), e)
		}
		if x, rejects, e := batch.Decode(s); c.want == api.OK && (x.Id != b.Id || x.Sender != b.Sender || x.Date != b.Date || !slices.Equal(x.Records, b.Records) || len(rejects) != 0 || e != api.OK) {
			t.Error(i, x, rejects, e)
		}
	}
}

func TestText(t *testing.T) {
	b := sample()
	s, _ := batch.Encode(b)
	lines := "H|F20-1|shop|20\nR|1|a||shop|home|m|4000000000000077|100|EUR|12|5411|0\nR|2|b||shop|home|m|4000000000000077|30|EUR|12|5411|0\nT|2|100|30|154\n"
	if s != seal(lines) {
		t.Error(s)
	}
	b.Records = nil
	if s, _ := batch.Encode(b); s != seal("H|F20-1|shop|20\nT|0|0|0|0\n") {
		t.Error(s)
	}
	// Every changed byte is found.
	for i := range len(s) {
		for _, c := range []byte("0a1|\nHRTC\x00") {
			if x := s[:i] + string(rune(c)) + s[i+1:]; x != s {
				if b, rejects, e := batch.Decode(x); e == api.OK || b.Id != "" || len(rejects) != 0 {
					t.Error(i, x)
				}
			}
		}
	}
}

func TestDecodeErrors(t *testing.T) {
	long := "H|F20-1|shop|20\n" + strings.Repeat("R|\n", 201) + "T|201|0|0|0\n"
	for i, c := range []struct {
		s    string
		want api.Errno
	}{
		{"", api.ErrShort}, {"H|a|b|1\nT|0|0|0|0\n", api.ErrShort}, {seal("H|a|b|1\nT|0|0|0|0\n") + "x", api.ErrFormat}, {seal("H|a|b\nT|0|0|0|0\n"), api.ErrFormat}, {seal("H|a|b|01\nT|0|0|0|0\n"), api.ErrFormat}, {seal("X|a|b|1\nT|0|0|0|0\n"), api.ErrFormat}, {seal("H|a|b|1|\nT|0|0|0|0\n"), api.ErrFormat},
		{seal("H|a|b|1\nT|0|0|0\n"), api.ErrFormat}, {seal("H|a|b|1\nT|0|0|0|x\n"), api.ErrFormat}, {seal("H|a|b|1\nX|0|0|0|0\n"), api.ErrFormat}, {seal("H|a|b|1\nR\nT|0|0|0|0\n"), api.ErrFormat}, {seal("H|a|b|1\n\nT|0|0|0|0\n"), api.ErrFormat}, {"H|a|b|1\nT|0|0|0|0\nC|1234567\n", api.ErrFormat}, {"H|a|b|1\nT|0|0|0|0\nC|1234567A\n", api.ErrFormat},
		{"H|a|b|1\nT|0|0|0|0\nC|12345678\n", api.ErrChecksum}, {seal("H|-|-|-1\nT|1|0|0|0\n"), api.ErrChecksum}, {seal("H|a|b|1\nT|0|0|0|-1\n"), api.ErrChecksum}, {seal(long), api.ErrLong}, {seal(strings.Replace(long, "F20-1", "a b", 1)), api.ErrLong}, {seal("H|a b|b|-1\nT|0|0|0|0\n"), api.ErrName}, {seal("H|a|b-c|1\nT|0|0|0|0\n"), api.ErrName}, {seal("H|a|b|-1\nT|0|0|0|0\n"), api.ErrTime}, {seal("H|a|b|100000\nT|0|0|0|0\n"), api.ErrTime},
		{seal("H|a|b|1\nT|0|0|0|0\n"), 0},
	} {
		if b, rejects, e := batch.Decode(c.s); e != c.want || e != api.OK && (b.Id != "" || len(rejects) != 0) {
			t.Error(i, b, rejects, e)
		}
	}
}

func TestRejects(t *testing.T) {
	good := "R|1|a||shop|home|m|4000000000000077|100|EUR|12|5411|0\n"
	lines := "H|F|shop|20\n" + strings.Replace(good, "77|100", "78|100", 1) + good + strings.Replace(good, "shop", "other", 1) + good + "R|junk\n" + strings.Replace(good, "R|1|a", "R|9|z", 1) + strings.Replace(good, "|100|", "|-5|", 1) + strings.Replace(good, "R|1|a", "R|1|b", 1) + "R|x|y||shop|home|m|4000000000000077|7|EUR|12|5411|0\n"
	hash := 78 + 77*3 + 77 + 77 + 77
	s := seal(lines + "T|9|500|0|" + strconv.Itoa(hash) + "\n")
	b, rejects, e := batch.Decode(s)
	want := []api.Reject{{Index: 0, Id: "a", Code: api.ErrCard}, {Index: 2, Id: "a", Code: api.ErrName}, {Index: 3, Id: "a", Code: api.ErrExists}, {Index: 4, Id: "", Code: api.ErrFormat}, {Index: 5, Id: "z", Code: api.ErrRange}, {Index: 6, Id: "a", Code: api.ErrRange}, {Index: 8, Id: "y", Code: api.ErrFormat}}
	if e != api.OK || !reflect.DeepEqual(rejects, want) || len(b.Records) != 2 || b.Records[0].Id != "a" || b.Records[1].Id != "b" {
		t.Error(b, rejects, e)
	}
}

func TestMerge(t *testing.T) {
	a, b := sample(), sample()
	b.Id = "F20-2"
	b.Records = []api.Record{rec("c", 1, 5)}
	m, e := batch.Merge("M", []api.Batch{a, b})
	if m.Id != "M" || m.Sender != "shop" || m.Date != 20 || len(m.Records) != 3 || m.Records[2].Id != "c" || e != api.OK {
		t.Error(m, e)
	}
	m.Records[0].Id = "changed"
	if a.Records[0].Id != "a" {
		t.Error("shared memory")
	}
	other := func(change func(x *api.Batch)) api.Batch {
		x := b
		x.Records = slices.Clone(b.Records)
		change(&x)
		return x
	}
	for i, c := range []struct {
		id   string
		l    []api.Batch
		want api.Errno
	}{
		{"", nil, api.ErrShort}, {"", []api.Batch{a, other(func(x *api.Batch) { x.Date, x.Sender = -1, "y" })}, api.ErrTime}, {"", []api.Batch{a, other(func(x *api.Batch) { x.Sender, x.Date, x.Records = "y", 21, nil })}, api.ErrName}, {"", []api.Batch{a, other(func(x *api.Batch) { x.Date = 21 })}, api.ErrTime},
		{"", []api.Batch{a, b}, api.ErrName}, {"M", []api.Batch{a, a}, api.ErrExists},
	} {
		if m, e := batch.Merge(c.id, c.l); m.Sender != "" || len(m.Records) != 0 || e != c.want {
			t.Error(i, m, e)
		}
	}
}

func TestRoom(t *testing.T) {
	b := sample()
	b.Records = nil
	for i := range 200 {
		b.Records = append(b.Records, rec("r"+strconv.Itoa(i), api.RcPresent, 1))
	}
	s, e := batch.Encode(b)
	if e != api.OK {
		t.Fatal(e)
	}
	if x, rejects, e := batch.Decode(s); !slices.Equal(x.Records, b.Records) || len(rejects) != 0 || e != api.OK {
		t.Error(len(x.Records), rejects, e)
	}
	if m, e := batch.Merge("M", []api.Batch{b}); len(m.Records) != 200 || e != api.OK {
		t.Error(e)
	}
	b.Date = api.MaxDate
	if e := batch.Check(b); e != api.OK {
		t.Error(e)
	}
	b.Records = append(b.Records, rec("x", api.RcPresent, 1))
	if e := batch.Check(b); e != api.ErrLong {
		t.Error(e)
	}
}
