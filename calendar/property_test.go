package calendar_test

import (
	"math/rand"
	"testing"
	"time"

	"cardnet/api"
	"cardnet/calendar"
)

func TestAgainstTime(t *testing.T) {
	for date := 0; date <= api.MaxDate; date += 7 {
		d := time.Unix(int64(date)*86400, 0).UTC()
		y, m, day := calendar.Split(date)
		if y != d.Year() || m != int(d.Month()) || day != d.Day() || calendar.Format(date) != d.Format("2006-01-02") || calendar.Weekday(date) != (int(d.Weekday())+6)%7 {
			t.Fatal(date, y, m, day)
		}
	}
}

func TestBusinessDays(t *testing.T) {
	r := rand.New(rand.NewSource(1))
	var holidays []int
	for range 60 {
		holidays = append(holidays, r.Intn(400))
	}
	c, _ := calendar.New(holidays)
	for range 2000 {
		date, n := r.Intn(400), 1+r.Intn(30)
		day, e := calendar.Start(date)
		if d, _ := calendar.Day(day); d != date || e != api.OK {
			t.Fatal(date)
		}
		next, _ := c.Add(date, n)
		after, _ := c.Next(next + 1)
		if further, e := c.Add(date, n+1); further != after || e != api.OK || !c.Business(after) {
			t.Fatal(date, n, further, after)
		}
		middle := date + r.Intn(50)
		if c.Count(date, next+1) != c.Count(date, middle)+c.Count(middle, next+1) && middle <= next {
			t.Fatal(date, middle, next)
		}
		if c.Count(date+1, next+1) != n {
			t.Fatal(date, n, next)
		}
	}
}
