package feetext_test

import (
	"reflect"
	"strconv"
	"strings"
	"testing"

	"cardnet/api"
	"cardnet/feetext"
	"cardnet/ruletext"
)

func cond(s string) api.Expr {
	e, _, _ := ruletext.ParseExpr(s)
	return e
}

func TestPercent(t *testing.T) {
	for bps := 0; bps <= 10000; bps++ {
		if n, e := feetext.ParsePercent(feetext.Percent(bps)); n != bps || e != api.OK {
			t.Fatal(bps, feetext.Percent(bps), n, e)
		}
	}
	for bps, want := range map[int]string{0: "0%", 5: "0.05%", 120: "1.2%", 105: "1.05%", 100: "1%", 10000: "100%", -1: "", 10001: "", 50: "0.5%"} {
		if feetext.Percent(bps) != want {
			t.Error(bps, feetext.Percent(bps))
		}
	}
	for s, want := range map[string]api.Errno{
		"": api.ErrShort, "1.20%": api.ErrFormat, "100.01%": api.ErrRange, "1": api.ErrFormat, "01%": api.ErrFormat, "1.%": api.ErrFormat, ".5%": api.ErrFormat, "1.234%": api.ErrFormat, "1.2": api.ErrFormat, "-1%": api.ErrFormat, "+1%": api.ErrFormat, "1 %": api.ErrFormat,
		"101%": api.ErrRange, "1000%": api.ErrRange, "1000.5%": api.ErrRange, "99999999999999999999999%": api.ErrRange, "0999%": api.ErrFormat, "1000.50%": api.ErrFormat, "%": api.ErrFormat, "1%%": api.ErrFormat, "1.0%": api.ErrFormat, "1.2.3%": api.ErrFormat, "1.a%": api.ErrFormat,
	} {
		if n, e := feetext.ParsePercent(s); n != 0 || e != want {
			t.Error(s, n, e)
		}
	}
}

func TestRoundTrip(t *testing.T) {
	l := []api.FeeRule{
		{Name: "food", When: cond("category in (5411, 5412)"), Bps: 105, Fixed: 10, Max: 500},
		{Name: "rule1", When: cond("fee = 1 or min < max"), Bps: 0, Min: 7},
		{Name: "rest", When: cond("1 = 1"), Bps: 10000, Fixed: 1 << 53, Min: 1 << 53, Max: 1 << 53},
		{Name: "x", When: cond("shop = \"1.5% # x\""), Bps: 250},
	}
	const text = "fee food when category in (5411, 5412): 1.05% + 10 max 500;\nfee rule1 when fee = 1 or min < max: 0% min 7;\nfee rest when 1 = 1: 100% + 9007199254740992 min 9007199254740992 max 9007199254740992;\nfee x when shop = \"1.5% # x\": 2.5%;\n"
	if feetext.Format(l) != text || feetext.Format(nil) != "" {
		t.Error(feetext.Format(l))
	}
	for _, s := range []string{text, "# 1.5% \" \n" + strings.ReplaceAll(text, ": ", "\t: # \"1.5%\n ")} {
		if x, e, at := feetext.Parse(s); !reflect.DeepEqual(x, l) || e != api.OK || at != 0 {
			t.Error(s, x, e, at)
		}
	}
	if x, e, at := feetext.Parse(" #"); len(x) != 0 || e != api.OK || at != 0 {
		t.Error(x, e, at)
	}
	for i, r := range []api.FeeRule{{Name: "fee", When: l[2].When}, {Name: "min", When: l[2].When}, {Name: "max", When: l[2].When}, {Name: "when", When: l[2].When}, {Name: "a-b", When: l[2].When}, {Name: "a"}, {Name: "a", When: l[2].When, Bps: -1}, {Name: "a", When: l[2].When, Bps: 10001}, {Name: "a", When: l[2].When, Fixed: -1}, {Name: "a", When: l[2].When, Min: 1<<53 + 1}, {Name: "a", When: l[2].When, Max: -1}, {Name: "food", When: l[2].When}} {
		if s := feetext.Format([]api.FeeRule{l[0], r}); s != "" {
			t.Error(i, s)
		}
	}
	var many []api.FeeRule
	for i := range 65 {
		many = append(many, api.FeeRule{Name: "r" + strconv.Itoa(i), When: l[2].When})
	}
	if feetext.Format(many) != "" || feetext.Format(many[:64]) == "" {
		t.Error("too many rules")
	}
	if x, e, at := feetext.Parse(feetext.Format(many[:64])); len(x) != 64 || e != api.OK || at != 0 {
		t.Error(len(x), e, at)
	}
	full := feetext.Format(many[:64])
	for _, s := range []string{"x", "\"fee\"", "rule"} {
		if x, e, at := feetext.Parse(full + s); len(x) != 0 || e != api.ErrFormat || at != len(full) {
			t.Error(s, len(x), e, at)
		}
	}
	if x, e, at := feetext.Parse("fee a when \":\" = c: 1%;"); len(x) != 1 || e != api.OK || at != 0 {
		t.Error(x, e, at)
	}
	if x, e, at := feetext.Parse(full + "fee r0"); len(x) != 0 || e != api.ErrLong || at != len(full) {
		t.Error(len(x), e, at)
	}
}

func TestErrors(t *testing.T) {
	for _, c := range []struct {
		s  string
		e  api.Errno
		at int
	}{
		{"fee a when 1 = 1: 1 %;", api.ErrFormat, 18}, {"fee a when 1 = 1: 1;", api.ErrFormat, 19}, {"fee min when 1 = 1: 1%;", api.ErrFormat, 4}, {"fee rule when 1 = 1: 1%;", api.ErrFormat, 4}, {"x", api.ErrFormat, 0}, {"fee", api.ErrFormat, 3}, {"fee a 1 = 1", api.ErrFormat, 6},
		{"fee a when b c: 1%;", api.ErrFormat, 13}, {"fee a when : 1%;", api.ErrFormat, 11}, {"fee a when b", api.ErrFormat, 12}, {"fee a when b +", api.ErrFormat, 14}, {"fee a when (b: 1%;", api.ErrFormat, 13}, {"fee a when b: %;", api.ErrFormat, 14}, {"fee a when b: 1.20%;", api.ErrFormat, 14}, {"fee a when b: 100.01%;", api.ErrFormat, 14},
		{"fee a when b: 1. 5%;", api.ErrFormat, 15}, {"fee a when b: 1.5 %;", api.ErrFormat, 15}, {"fee a when b: 1% 5;", api.ErrFormat, 17}, {"fee a when b: 1% + x;", api.ErrFormat, 19}, {"fee a when b: 1% max 5 min 4;", api.ErrFormat, 23}, {"fee a when b: 1% min 5 + 4;", api.ErrFormat, 23}, {"fee a when b: 1% + 5", api.ErrFormat, 20},
		{"fee a when b: 1%; fee a when c: 1%;", api.ErrExists, 22}, {"fee a when b: 1.5%; \"", api.ErrFormat, 20}, {"fee a when b: 01%;", api.ErrFormat, 14}, {strings.Repeat(" ", 4001), api.ErrLong, 0}, {"fee a when 1.5% = 2: 1%;", api.ErrFormat, 14}, {"fee a when when: 1%;", api.ErrFormat, 11}, {"fee a when b: 1\n.5%;", api.ErrFormat, 16},
		{"fee a when b: 1.2.3%;", api.ErrFormat, 15}, {"fee a when b: 9007199254740993%;", api.ErrRange, 14}, {"fee a when x1.5% = 2: 1%;", api.ErrFormat, 13}, {"fee a when b: 1# x\n%;", api.ErrFormat, 14}, {"fee a when b: 1.5", api.ErrFormat, 15}, {"\"fee\" a when b: 1%;", api.ErrFormat, 0}, {"fee \"a\" when b: 1%;", api.ErrFormat, 4}, {"fee a when b \":\" 1%;", api.ErrFormat, 13}, {"fee a when b: 1 \"%\";", api.ErrFormat, 16}, {"fee a when b: 1%\";\"", api.ErrFormat, 16}, {"fee a \"when\" b: 1%;", api.ErrFormat, 6}, {"fee a when b: 1.", api.ErrFormat, 15}, {"fee a when b: 1", api.ErrFormat, 15}, {"fee a when b: 1.%;", api.ErrFormat, 15}, {"fee a when b: 1-5%;", api.ErrFormat, 15}, {"fee a when x_1.5% = 2: 1%;", api.ErrFormat, 14}, {"fee a when b: 1.5+%;", api.ErrFormat, 15},
		{"fee a when b: 1.5%; fee a", api.ErrExists, 24}, {"fee a when \"1.5% = 2: 1%;", api.ErrFormat, 11}, {"fee a when b: 1.5%", api.ErrFormat, 18},
	} {
		if x, e, at := feetext.Parse(c.s); len(x) != 0 || e != c.e || at != c.at {
			t.Error(c.s, x, e, at)
		}
	}
}
