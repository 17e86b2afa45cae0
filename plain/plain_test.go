package plain_test

import (
	"reflect"
	"testing"

	"cardnet/api"
	"cardnet/plain"
)

func TestNumber(t *testing.T) {
	for s, want := range map[string]int64{"0": 0, "-1": -1, "9223372036854775807": 1<<63 - 1, "-9223372036854775808": -1 << 63} {
		if n, ok := plain.Number(s); n != want || !ok {
			t.Error(s, n, ok)
		}
	}
	for _, s := range []string{"", "-", "+1", "01", "-0", "1 ", "1_0", "0x1", "9223372036854775808"} {
		if n, ok := plain.Number(s); n != 0 || ok {
			t.Error(s, n, ok)
		}
	}
}

func TestForms(t *testing.T) {
	for s, want := range map[string][3]bool{
		"a": {true, true, false}, "A_9": {true, true, false}, "9a": {false, true, false}, "a-b": {false, true, false},
		"azAZ": {true, true, false}, "a09": {true, true, false}, "AZZ": {true, true, true}, "AZ[": {}, "AB@": {}, "": {}, "ABC": {true, true, true}, "_a": {false, true, false}, "aaaaaaaaaaaaaaaaa": {}, "a b": {}, "AB1": {true, true, false},
		"aaaaaaaaaaaaaaaa": {true, true, false}, "\xc3\xa4": {},
	} {
		if got := [3]bool{plain.IsName(s), plain.IsId(s), plain.IsCurrency(s)}; got != want {
			t.Error(s, got)
		}
	}
	if plain.IsDigits("") || !plain.IsDigits("09") || plain.IsDigits("0a") || !plain.IsHex("09af") || plain.IsHex("0F") || plain.IsHex("g") || plain.IsHex("`") || plain.Digits(7, 3) != "007" {
		t.Error("digits")
	}
	if !plain.IsDate(0) || !plain.IsTime(0) || plain.IsDate(-1) || !plain.IsDate(api.MaxDate) || plain.IsDate(api.MaxDate+1) || plain.IsTime(-1) || !plain.IsTime(api.MaxTime) || plain.IsTime(api.MaxTime+1) {
		t.Error("dates and times")
	}
	if plain.IsAmount(0, 1) || !plain.IsAmount(0, 0) || !plain.IsAmount(api.MaxAmount, 1) || plain.IsAmount(api.MaxAmount+1, 0) {
		t.Error("amounts")
	}
}

func TestPrintable(t *testing.T) {
	long := "0123456789012345678901234567890123456789012345678901234567890123456789012345678901234567890123456789"
	for s, want := range map[string][2]bool{"": {true, true}, " ~": {true, true}, "\x1f": {}, "\x7f": {}, "\"": {true, false}, long: {true, true}, long + "x": {true, false}, "a\xff": {}} {
		if plain.IsPrintable(s) != want[0] || plain.IsLiteral(s) != want[1] {
			t.Error(s)
		}
	}
}

func TestCloneExpr(t *testing.T) {
	e := api.Expr{Op: api.XNot, Args: []api.Expr{{Op: api.XName, Name: "a"}}}
	c := plain.CloneExpr(e)
	if !reflect.DeepEqual(c, e) {
		t.Error(c)
	}
	c.Args[0].Name = "b"
	if e.Args[0].Name != "a" {
		t.Error("shared memory")
	}
}
