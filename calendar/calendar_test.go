package calendar_test

import (
	"math"
	"testing"

	"cardnet/api"
	"cardnet/calendar"
)

func TestOf(t *testing.T) {
	for _, c := range [][4]int{{1970, 1, 1, 0}, {1970, 3, 1, 59}, {2243, 10, 16, api.MaxDate}, {2000, 2, 29, 11016}, {2024, 2, 29, 19782}, {2026, 11, 16, 20773}} {
		if d, e := calendar.Of(c[0], c[1], c[2]); d != c[3] || e != api.OK {
			t.Error(c, d, e)
		}
	}
	for _, c := range [][3]int{{1969, 12, 31}, {2244, 1, 1}, {2243, 10, 17}, {2100, 2, 29}, {2023, 2, 29}, {2023, 0, 1}, {2023, 13, 1}, {2023, 1, 0}, {2023, 4, 31}, {math.MinInt, 1, 1}, {2023, 1, math.MaxInt}, {2023, math.MinInt, 1}} {
		if d, e := calendar.Of(c[0], c[1], c[2]); d != 0 || e != api.ErrRange {
			t.Error(c, d, e)
		}
	}
}

func TestEveryDate(t *testing.T) {
	y, m, d := 1970, 1, 1
	for date := 0; date <= api.MaxDate; date++ {
		a, b, c := calendar.Split(date)
		if a != y || b != m || c != d {
			t.Fatal(date, a, b, c, y, m, d)
		}
		if n, e := calendar.Of(a, b, c); n != date || e != api.OK {
			t.Fatal(date, n, e)
		}
		if n, e := calendar.Parse(calendar.Format(date)); n != date || e != api.OK {
			t.Fatal(date, n, e)
		}
		if calendar.Weekday(date) != (date+3)%7 {
			t.Fatal(date, calendar.Weekday(date))
		}
		leap := y%4 == 0 && y%100 != 0 || y%400 == 0
		last := []int{31, 28, 31, 30, 31, 30, 31, 31, 30, 31, 30, 31}[m-1]
		if leap && m == 2 {
			last = 29
		}
		if d++; d > last {
			d = 1
			if m++; m > 12 {
				y, m = y+1, 1
			}
		}
	}
	for _, bad := range []int{-1, api.MaxDate + 1, math.MinInt, math.MaxInt} {
		if y, m, d := calendar.Split(bad); y != 0 || m != 0 || d != 0 || calendar.Weekday(bad) != -1 || calendar.Format(bad) != "" {
			t.Error(bad)
		}
		if n, e := calendar.Start(bad); n != 0 || e != api.ErrRange {
			t.Error(bad, n, e)
		}
	}
}

func TestAddMonths(t *testing.T) {
	for _, c := range [][3]int{{30, 1, 58}, {0, 12, 365}, {58, -1, 27}, {30, -0, 30}, {11016, 12, 11381}, {11016, 48, 12477}, {365, -12, 0}, {19782, -1, 19751}} {
		if d, e := calendar.AddMonths(c[0], c[1]); d != c[2] || e != api.OK {
			t.Error(c, d, e)
		}
	}
	for _, c := range [][2]int{{-1, 0}, {api.MaxDate + 1, 0}, {0, -1}, {api.MaxDate, 1}, {0, 10001}, {0, -10001}, {0, 10000}, {0, math.MinInt}} {
		if d, e := calendar.AddMonths(c[0], c[1]); d != 0 || e != api.ErrRange {
			t.Error(c, d, e)
		}
	}
}

func TestDayStart(t *testing.T) {
	for _, c := range [][3]int{{0, 0, 0}, {86399, 0, 86399}, {86401, 1, 1}, {api.MaxDate*86400 + 86399, api.MaxDate, 86399}, {-1, -1, -1}, {(api.MaxDate + 1) * 86400, -1, -1}, {math.MaxInt, -1, -1}, {math.MinInt, -1, -1}} {
		if d, s := calendar.Day(c[0]); d != c[1] || s != c[2] {
			t.Error(c, d, s)
		}
	}
	if n, e := calendar.Start(api.MaxDate); n != api.MaxDate*86400 || e != api.OK {
		t.Error(n, e)
	}
}

func TestParse(t *testing.T) {
	for s, want := range map[string]api.Errno{
		"": api.ErrShort, "1970-01-0": api.ErrShort, "1970-01-011": api.ErrLong, "1970/01-01": api.ErrFormat, "1970-01/01": api.ErrFormat,
		"197a-01-01": api.ErrFormat, "1970-x1-01": api.ErrFormat, "1970-0x-01": api.ErrFormat, "1970-01-x1": api.ErrFormat, "1970-01-0x": api.ErrFormat, "1970-01--1": api.ErrFormat, "1970-13-01": api.ErrRange, "1969-12-31": api.ErrRange, "2243-10-17": api.ErrRange,
		"0000-00-00": api.ErrRange, "+970-01-01": api.ErrFormat,
	} {
		if d, e := calendar.Parse(s); d != 0 || e != want {
			t.Error(s, d, e)
		}
	}
}

func TestBusiness(t *testing.T) {
	c, _ := calendar.New(nil)
	h, e := calendar.New([]int{4, 4, api.MaxDate})
	if e != api.OK {
		t.Fatal(e)
	}
	for date, want := range map[int]bool{0: true, 1: true, 2: false, 3: false, 4: true, -1: false, api.MaxDate: true, api.MaxDate + 1: false} {
		if c.Business(date) != want {
			t.Error(date)
		}
	}
	if h.Business(4) || h.Business(api.MaxDate) || !h.Business(5) {
		t.Error("holidays")
	}
	for _, x := range [][2]int{{2, 4}, {0, 0}, {api.MaxDate, api.MaxDate}} {
		if d, e := c.Next(x[0]); d != x[1] || e != api.OK {
			t.Error(x, d, e)
		}
	}
	if d, e := h.Next(2); d != 5 || e != api.OK {
		t.Error(d, e)
	}
	for _, x := range []int{-1, api.MaxDate, api.MaxDate + 1} {
		if d, e := h.Next(x); d != 0 || e != api.ErrRange {
			t.Error(x, d, e)
		}
	}
	for _, x := range [][3]int{{1, 1, 4}, {1, 0, 1}, {2, 0, 4}, {2, 1, 4}, {0, 5, 7}, {0, 1000, 1400}} {
		if d, e := c.Add(x[0], x[1]); d != x[2] || e != api.OK {
			t.Error(x, d, e)
		}
	}
	for _, x := range [][2]int{{-1, 0}, {0, -1}, {0, 1001}, {api.MaxDate, 1}, {api.MaxDate + 1, 0}} {
		if d, e := c.Add(x[0], x[1]); d != 0 || e != api.ErrRange {
			t.Error(x, d, e)
		}
	}
	for _, x := range [][3]int{{0, 7, 5}, {0, 0, 0}, {7, 0, 0}, {2, 4, 0}, {-1, 7, 0}, {0, api.MaxDate + 1, 0}, {api.MaxDate - 1, api.MaxDate, 0}} {
		if n := c.Count(x[0], x[1]); n != x[2] {
			t.Error(x, n)
		}
	}
	if h.Count(0, 7) != 4 {
		t.Error(h.Count(0, 7))
	}
}

func TestNew(t *testing.T) {
	many := make([]int, 401)
	if c, e := calendar.New(many); c != nil || e != api.ErrLong {
		t.Error(c, e)
	}
	if c, e := calendar.New(many[:400]); c == nil || e != api.OK {
		t.Error(c, e)
	}
	for _, bad := range []int{-1, api.MaxDate + 1} {
		if c, e := calendar.New([]int{0, bad}); c != nil || e != api.ErrRange {
			t.Error(c, e)
		}
	}
	var none *calendar.Calendar
	if d, e := none.Next(0); d != 0 || e != api.ErrNone {
		t.Error(d, e)
	}
	if d, e := none.Add(0, 1); d != 0 || e != api.ErrNone {
		t.Error(d, e)
	}
	if none.Business(0) || none.Count(0, 7) != 0 {
		t.Error("nil calendar")
	}
}
