package ruletext_test

import (
	"reflect"
	"strconv"
	"strings"
	"testing"

	"cardnet/api"
	"cardnet/ruletext"
)

func op(o int, args ...api.Expr) api.Expr { return api.Expr{Op: o, Args: args} }
func num(n int64) api.Expr                { return api.Expr{Op: api.XNumber, N: n} }
func name(s string) api.Expr              { return api.Expr{Op: api.XName, Name: s} }

var a, b, c = name("a"), name("b"), name("c")

func TestExpr(t *testing.T) {
	for s, want := range map[string]api.Expr{
		"a - b - c * 2":                 op(api.XSub, op(api.XSub, a, b), op(api.XMul, c, num(2))),
		"a - (b - c)":                   op(api.XSub, a, op(api.XSub, b, c)),
		"(a = b) = c":                   op(api.XEq, op(api.XEq, a, b), c),
		"a = (b = c)":                   op(api.XEq, a, op(api.XEq, b, c)),
		"a = 1 and not (b or c)":        op(api.XAnd, op(api.XEq, a, num(1)), op(api.XNot, op(api.XOr, b, c))),
		"-a * (b + 1)":                  op(api.XMul, op(api.XNeg, a), op(api.XAdd, b, num(1))),
		"-(a * b)":                      op(api.XNeg, op(api.XMul, a, b)),
		"--a":                           op(api.XNeg, op(api.XNeg, a)),
		"not not -a":                    op(api.XNot, op(api.XNot, op(api.XNeg, a))),
		"a - -b":                        op(api.XSub, a, op(api.XNeg, b)),
		"not a = b":                     op(api.XEq, op(api.XNot, a), b),
		"not (a = b)":                   op(api.XNot, op(api.XEq, a, b)),
		"count(a, 60) <= 3":             op(api.XLe, api.Expr{Op: api.XCount, Name: "a", N: 60}, num(3)),
		"sum(a, 0) < 9007199254740992":  op(api.XLt, api.Expr{Op: api.XSum, Name: "a"}, num(1<<53)),
		"a in (\"DE\", \"F R\", b + 1)": op(api.XIn, a, api.Expr{Op: api.XText, Text: "DE"}, api.Expr{Op: api.XText, Text: "F R"}, op(api.XAdd, b, num(1))),
		"(a in (b)) in ((a = b))":       op(api.XIn, op(api.XIn, a, b), op(api.XEq, a, b)),
		"a or b or c":                   op(api.XOr, op(api.XOr, a, b), c),
		"a or (b or c)":                 op(api.XOr, a, op(api.XOr, b, c)),
		"a or b and c":                  op(api.XOr, a, op(api.XAnd, b, c)),
		"(a or b) and c":                op(api.XAnd, op(api.XOr, a, b), c),
		"a and (b and c)":               op(api.XAnd, a, op(api.XAnd, b, c)),
		"a * b * c":                     op(api.XMul, op(api.XMul, a, b), c),
		"a * (b * c)":                   op(api.XMul, a, op(api.XMul, b, c)),
		"a + b != c":                    op(api.XNe, op(api.XAdd, a, b), c),
		"\"\"":                          {Op: api.XText},
		"fee":                           name("fee"),
	} {
		if ruletext.Expr(want) != s {
			t.Error(s, ruletext.Expr(want))
		}
		if x, e, at := ruletext.ParseExpr(s); !reflect.DeepEqual(x, want) || e != api.OK || at != 0 {
			t.Error(s, x, e, at)
		}
		loose := " # r\n" + strings.ReplaceAll(s, " ", " \n") + "\t"
		if x, e, _ := ruletext.ParseExpr(loose); !strings.Contains(s, "F R") && (!reflect.DeepEqual(x, want) || e != api.OK) {
			t.Error(loose, x, e)
		}
	}
	for s, want := range map[string]string{"(a)": "a", "((a)+(b))": "a + b", "(a*b)*c": "a * b * c", "a=(b+c)": "a = b + c"} {
		if x, e, _ := ruletext.ParseExpr(s); ruletext.Expr(x) != want || e != api.OK {
			t.Error(s, ruletext.Expr(x), e)
		}
	}
}

func TestNotWritable(t *testing.T) {
	for i, e := range []api.Expr{
		{}, num(-1), num(1<<53 + 1), name("when"), name("a-b"), name(""), {Op: api.XText, Text: "\""}, {Op: api.XText, Text: "\n"}, {Op: api.XText, Text: strings.Repeat("x", 101)}, {Op: api.XNumber, Name: "a"}, {Op: api.XNumber, Text: "a"}, {Op: api.XText, N: 1},
		{Op: api.XName, Name: "a", N: 1}, {Op: api.XName, Name: "a", Args: []api.Expr{a}}, op(api.XNot), op(api.XNot, a, b), op(api.XAnd, a), op(api.XEq, a, b, c), op(api.XIn, a), {Op: api.XCount, Name: "sum", N: 1}, {Op: api.XCount, Name: "a", N: -1},
		{Op: api.XSum, Name: "a", N: 1<<53 + 1}, op(99, a, b), op(api.XNot, op(api.XNeg, num(-1))), {Op: api.XAnd, Name: "x", Args: []api.Expr{a, b}}, {Op: api.XAnd, N: 2, Args: []api.Expr{a, b}}, {Op: api.XCount, Name: "a", Text: "x"},
	} {
		if ruletext.Expr(e) != "" || ruletext.Format([]api.Rule{{Name: "r", When: e}}) != "" {
			t.Error(i, ruletext.Expr(e))
		}
	}
	many := make([]api.Expr, 30)
	for i := range many {
		many[i] = a
	}
	if ruletext.Expr(op(api.XIn, many...)) == "" || ruletext.Expr(api.Expr{Op: api.XText, Text: strings.Repeat("x", 100)}) == "" {
		t.Error("writable expressions")
	}
}

func TestParseExprErrors(t *testing.T) {
	for _, c := range []struct {
		s  string
		e  api.Errno
		at int
	}{
		{"", api.ErrFormat, 0}, {" ", api.ErrFormat, 1}, {"a = b = c", api.ErrFormat, 6}, {"a b", api.ErrFormat, 2}, {"(a", api.ErrFormat, 2}, {"a)", api.ErrFormat, 1}, {"a in b", api.ErrFormat, 5}, {"a in ()", api.ErrFormat, 6}, {"a in (b,)", api.ErrFormat, 8},
		{"count(60, a)", api.ErrFormat, 6}, {"count(a, b)", api.ErrFormat, 9}, {"count(not, 6)", api.ErrFormat, 6}, {"count a", api.ErrFormat, 6}, {"sum(a 6)", api.ErrFormat, 6}, {"a +", api.ErrFormat, 3}, {"when", api.ErrFormat, 0}, {"a and or", api.ErrFormat, 6}, {"a > b", api.ErrFormat, 2},
		{"a + 01", api.ErrFormat, 4}, {"a = 9007199254740993", api.ErrRange, 4}, {"(( 12a", api.ErrFormat, 3}, {"a !", api.ErrFormat, 2}, {"( aaaaaaaaaaaaaaaaa", api.ErrLong, 2}, {strings.Repeat("a", 4001), api.ErrLong, 0}, {"a = b c = 01", api.ErrFormat, 10},
		{"a = b in (c)", api.ErrFormat, 6}, {"+a", api.ErrFormat, 0},
	} {
		if x, e, at := ruletext.ParseExpr(c.s); !reflect.DeepEqual(x, api.Expr{}) || e != c.e || at != c.at {
			t.Error(c.s, x, e, at)
		}
	}
	deep := strings.Repeat("(", 1999) + "a" + strings.Repeat(")", 1999)
	if x, e, _ := ruletext.ParseExpr(deep); x.Name != "a" || e != api.OK {
		t.Error(x, e)
	}
}

func TestRules(t *testing.T) {
	big := api.Rule{Name: "big", When: op(api.XOr, op(api.XLe, name("amount"), num(100)), op(api.XNot, name("token"))), Action: api.Refer, Score: 5}
	other := api.Rule{Name: "other", When: op(api.XEq, num(1), num(1))}
	last := api.Rule{Name: "x", When: a, Action: api.Decline, Score: 1000}
	l := []api.Rule{big, other, last}
	const text = "rule big when amount <= 100 or not token: refer score 5;\nrule other when 1 = 1: pass;\nrule x when a: decline score 1000;\n"
	if ruletext.Format(l) != text || ruletext.Format(nil) != "" {
		t.Error(ruletext.Format(l))
	}
	if x, e, at := ruletext.Parse(text); !reflect.DeepEqual(x, l) || e != api.OK || at != 0 {
		t.Error(x, e, at)
	}
	if x, e, _ := ruletext.Parse("#\nrule big when(amount<=100)or not token:refer score 5;rule other when 1=1:pass score 0;rule x\nwhen a:decline score 1000;"); !reflect.DeepEqual(x, l) || e != api.OK {
		t.Error(x, e)
	}
	if x, e, at := ruletext.Parse(" # nothing"); len(x) != 0 || e != api.OK || at != 0 {
		t.Error(x, e, at)
	}
	for i, bad := range [][]api.Rule{{big, big}, {{Name: "rule", When: a}}, {{Name: "", When: a}}, {{Name: "r", When: a, Action: 3}}, {{Name: "r", When: a, Action: -1}}, {{Name: "r", When: a, Score: 1001}}, {{Name: "r", When: a, Score: -1}}, {{Name: "r"}}} {
		if ruletext.Format(bad) != "" {
			t.Error(i, ruletext.Format(bad))
		}
	}
	var many []api.Rule
	for i := range 65 {
		many = append(many, api.Rule{Name: "r" + strconv.Itoa(i), When: a})
	}
	if ruletext.Format(many) != "" || ruletext.Format(many[:64]) == "" {
		t.Error("too many rules")
	}
}

func TestParseErrors(t *testing.T) {
	many := ""
	for i := range 64 {
		many += "rule r" + strconv.Itoa(i) + " when a: pass;"
	}
	if l, e, _ := ruletext.Parse(many); len(l) != 64 || e != api.OK {
		t.Error(len(l), e)
	}
	for _, c := range []struct {
		s  string
		e  api.Errno
		at int
	}{
		{"rule when when 1 = 1: pass;", api.ErrFormat, 5}, {"rule a", api.ErrFormat, 6}, {"x", api.ErrFormat, 0}, {"rule a when b: pass; rule a when c: pass;", api.ErrExists, 26}, {"rule a when b: pass score 1001;", api.ErrFormat, 26}, {"rule a when b: pass score;", api.ErrFormat, 25},
		{"rule a when b: ok;", api.ErrFormat, 15}, {"rule a when b pass;", api.ErrFormat, 14}, {"rule a when b: pass", api.ErrFormat, 19}, {"rule a b: pass;", api.ErrFormat, 7}, {"rule a when b: pass;;", api.ErrFormat, 20}, {"rule 1 when b: pass;", api.ErrFormat, 5},
		{many + "rule", api.ErrLong, len(many)}, {many + "x", api.ErrFormat, len(many)}, {many + "rule r0", api.ErrLong, len(many)}, {"rule a when b: pass; 01", api.ErrFormat, 21}, {"rule a when \"", api.ErrFormat, 12}, {"rule pass when b: pass;", api.ErrFormat, 5},
		{"rule a when b: pass; rule a", api.ErrExists, 26}, {"rule a when b: ;", api.ErrFormat, 15}, {"rule a when b: pass; rule \"a\"", api.ErrFormat, 26}, {many + "\"rule\"", api.ErrFormat, len(many)}, {"Rule a when b: pass;", api.ErrFormat, 0},
	} {
		if x, e, at := ruletext.Parse(c.s); len(x) != 0 || e != c.e || at != c.at {
			t.Error(c.s, x, e, at)
		}
	}
}

// TestForms adds to each writable expression a field that its operator does not have.
func TestForms(t *testing.T) {
	l := []api.Expr{num(1), {Op: api.XText, Text: "x"}, a, {Op: api.XCount, Name: "a", N: 5}, {Op: api.XSum, Name: "a", N: 5}, op(api.XNot, a), op(api.XNeg, a), op(api.XIn, a, b)}
	for o := api.XAnd; o <= api.XMul; o++ {
		l = append(l, op(o, a, b))
	}
	for i, e := range l {
		if ruletext.Expr(e) == "" {
			t.Error(i)
		}
		for k := range 4 {
			x := e
			switch {
			case k == 0 && x.Text == "":
				x.Text = "x"
			case k == 1 && x.Name == "":
				x.Name = "x"
			case k == 2 && x.N == 0:
				x.N = 1
			case k == 3 && x.Op != api.XIn:
				x.Args = append([]api.Expr{c}, x.Args...)
			default:
				continue
			}
			if ruletext.Expr(x) != "" || ruletext.Expr(op(api.XNot, x)) != "" {
				t.Error(i, k, ruletext.Expr(x))
			}
		}
	}
	for s, want := range map[string]bool{" ": true, "~": true, "\x1f": false, "\x7f": false, "\"": false, strings.Repeat("x", 100): true, strings.Repeat("x", 101): false} {
		if (ruletext.Expr(api.Expr{Op: api.XText, Text: s}) != "") != want {
			t.Error(s)
		}
	}
}
