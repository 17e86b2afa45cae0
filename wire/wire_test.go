package wire_test

import (
	"math"
	"strings"
	"testing"

	"cardnet/api"
	"cardnet/wire"
)

func TestWriting(t *testing.T) {
	for i, c := range []struct {
		n     int64
		width int
		want  string
		e     api.Errno
	}{
		{7, 3, "007", 0}, {0, 1, "0", 0}, {999, 3, "999", 0}, {1000, 3, "", api.ErrRange}, {-1, 3, "", api.ErrRange}, {1, 0, "", api.ErrRange},
		{1, 16, "", api.ErrRange}, {999999999999999, 15, "999999999999999", 0}, {math.MinInt64, 15, "", api.ErrRange},
	} {
		if s, e := wire.Num(c.n, c.width); s != c.want || e != c.e {
			t.Error(i, s, e)
		}
	}
	for i, c := range []struct {
		s     string
		width int
		want  string
		e     api.Errno
	}{
		{"ab", 4, "ab  ", 0}, {"", 2, "  ", 0}, {"ab", 2, "ab", 0}, {"abc", 2, "", api.ErrLong}, {"ab ", 4, "", api.ErrFormat}, {" a", 2, " a", 0},
		{"a\n", 4, "", api.ErrFormat}, {"\x7f", 4, "", api.ErrFormat}, {"a", 0, "", api.ErrRange}, {"a", 256, "", api.ErrRange}, {"\n\n\n", 2, "", api.ErrLong},
		{strings.Repeat("~", 255), 255, strings.Repeat("~", 255), 0},
	} {
		if s, e := wire.Alpha(c.s, c.width); s != c.want || e != c.e {
			t.Error(i, s, e)
		}
	}
	for i, c := range []struct {
		s      string
		digits int
		want   string
		e      api.Errno
	}{
		{"ab", 2, "02ab", 0}, {"", 3, "000", 0}, {"x", 1, "", api.ErrRange}, {"x", 4, "", api.ErrRange}, {strings.Repeat("x", 100), 2, "", api.ErrLong},
		{strings.Repeat("x", 100), 3, "100" + strings.Repeat("x", 100), 0}, {strings.Repeat("x", 256), 3, "", api.ErrLong}, {"\x00\xff", 2, "02\x00\xff", 0},
	} {
		if s, e := wire.Var(c.s, c.digits); s != c.want || e != c.e {
			t.Error(i, s, e)
		}
	}
	if wire.Hex("A\x0f\xff") != "410fff" || wire.Hex("") != "" {
		t.Error(wire.Hex("A\x0f\xff"))
	}
	if s, e := wire.Unhex("410fff"); s != "A\x0f\xff" || e != api.OK {
		t.Error(s, e)
	}
	for _, s := range []string{"4", "4G", "4F", "g0", "+1"} {
		if x, e := wire.Unhex(s); x != "" || e != api.ErrFormat {
			t.Error(s, x, e)
		}
	}
}

// TestBounds writes and reads fields of the least and the greatest widths and lengths.
func TestBounds(t *testing.T) {
	for _, width := range []int{1, 15} {
		s, e := wire.Num(7, width)
		if r := wire.NewReader(s); len(s) != width || e != api.OK || r.Num(width) != 7 || r.End() != api.OK {
			t.Error(s, e)
		}
	}
	for _, width := range []int{1, 255} {
		s, e := wire.Alpha("a", width)
		if r := wire.NewReader(s); len(s) != width || e != api.OK || r.Alpha(width) != "a" || r.End() != api.OK {
			t.Error(s, e)
		}
	}
	for length, digits := range map[int]int{0: 2, 99: 2, 100: 3, 255: 3} {
		text := strings.Repeat("x", length)
		s, e := wire.Var(text, digits)
		if r := wire.NewReader(s); len(s) != length+digits || e != api.OK || r.Var(digits, length) != text || r.End() != api.OK {
			t.Error(s, e)
		}
	}
	for b := range 256 {
		s := string([]byte{byte(b)})
		if x, e := wire.Unhex(wire.Hex(s)); x != s || e != api.OK {
			t.Error(b, x, e)
		}
	}
}

func TestReading(t *testing.T) {
	r := wire.NewReader("007ab  03x|yz")
	if r.Num(3) != 7 || r.Alpha(4) != "ab" || r.Left() != 6 || r.End() != api.ErrLong || r.Var(2, 3) != "x|y" || r.Take(1) != "z" || r.Take(0) != "" || r.End() != api.OK || r.Err() != api.OK {
		t.Error(r.Left(), r.Err())
	}
	for i, c := range []struct {
		s    string
		read func(r *wire.Reader) bool
		e    api.Errno
	}{
		{"12", func(r *wire.Reader) bool { return r.Num(3) == 0 }, api.ErrShort},
		{"12", func(r *wire.Reader) bool { return r.Num(0) == 0 }, api.ErrRange},
		{"12", func(r *wire.Reader) bool { return r.Num(16) == 0 }, api.ErrRange},
		{"-1", func(r *wire.Reader) bool { return r.Num(2) == 0 }, api.ErrFormat},
		{"ab", func(r *wire.Reader) bool { return r.Alpha(3) == "" }, api.ErrShort},
		{"ab", func(r *wire.Reader) bool { return r.Alpha(0) == "" }, api.ErrRange},
		{"ab", func(r *wire.Reader) bool { return r.Alpha(256) == "" }, api.ErrRange},
		{"a\x1f", func(r *wire.Reader) bool { return r.Alpha(2) == "" }, api.ErrFormat},
		{"03abc", func(r *wire.Reader) bool { return r.Var(2, 2) == "" }, api.ErrLong},
		{"02a", func(r *wire.Reader) bool { return r.Var(2, 2) == "" }, api.ErrShort},
		{"0xab", func(r *wire.Reader) bool { return r.Var(2, 2) == "" }, api.ErrFormat},
		{"0", func(r *wire.Reader) bool { return r.Var(2, 2) == "" }, api.ErrShort},
		{"02ab", func(r *wire.Reader) bool { return r.Var(1, 2) == "" }, api.ErrRange},
		{"02ab", func(r *wire.Reader) bool { return r.Var(4, 2) == "" }, api.ErrRange},
		{"02ab", func(r *wire.Reader) bool { return r.Var(2, -1) == "" }, api.ErrRange},
		{"256" + strings.Repeat("x", 256), func(r *wire.Reader) bool { return r.Var(3, 999) == "" }, api.ErrLong},
		{"ab", func(r *wire.Reader) bool { return r.Take(3) == "" }, api.ErrShort},
		{"ab", func(r *wire.Reader) bool { return r.Take(-1) == "" }, api.ErrRange},
		{"ab", func(r *wire.Reader) bool { return r.Take(math.MaxInt) == "" }, api.ErrShort},
	} {
		r := wire.NewReader(c.s)
		if !c.read(r) || r.Err() != c.e || r.End() != c.e || r.Left() != len(c.s) {
			t.Error(i, r.Err(), r.Left())
		}
		// The first error remains, and nothing more is read.
		if r.Take(-1) != "" || r.Take(1) != "" || r.Num(1) != 0 || r.Alpha(1) != "" || r.Var(2, 9) != "" || r.Err() != c.e || r.Left() != len(c.s) {
			t.Error(i, r.Err(), r.Left())
		}
	}
	if s := wire.NewReader("255"+strings.Repeat("x", 255)).Var(3, 255); len(s) != 255 {
		t.Error(len(s))
	}
	if wire.NewReader("  ").Alpha(2) != "" {
		t.Error("spaces")
	}
	var none *wire.Reader
	if none.Num(1) != 0 || none.Alpha(1) != "" || none.Var(2, 1) != "" || none.Take(1) != "" || none.Left() != 0 || none.Err() != api.ErrNone || none.End() != api.ErrNone {
		t.Error("nil reader")
	}
}
