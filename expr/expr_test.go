package expr_test

import (
	"slices"
	"strings"
	"testing"

	"cardnet/api"
	"cardnet/expr"
)

func op(o int, args ...api.Expr) api.Expr { return api.Expr{Op: o, Args: args} }
func num(n int64) api.Expr                { return api.Expr{Op: api.XNumber, N: n} }
func str(s string) api.Expr               { return api.Expr{Op: api.XText, Text: s} }
func name(s string) api.Expr              { return api.Expr{Op: api.XName, Name: s} }
func count(s string, n int64) api.Expr    { return api.Expr{Op: api.XCount, Name: s, N: n} }
func sum(s string, n int64) api.Expr      { return api.Expr{Op: api.XSum, Name: s, N: n} }

var features = []api.Feature{{Name: "amount", Kind: api.TNumber, N: 5, Text: "ignored"}, {Name: "card", Kind: api.TText, Text: "c1", N: 99}, {Name: "token", Kind: api.TBool, N: 1, Text: "ignored"}, {Name: "big", Kind: api.TNumber, N: 1 << 62}}

// fixed is a source that also remembers what it was asked.
type fixed struct {
	n     int64
	asked []string
}

func (f *fixed) Count(name string, window int) int64 { f.asked = append(f.asked, name); return f.n }
func (f *fixed) Sum(name string, window int) int64 {
	f.asked = append(f.asked, name)
	return f.n * int64(window)
}

func deep(n int) api.Expr {
	e := name("token")
	for range n - 1 {
		e = op(api.XNot, e)
	}
	return e
}

var truths = map[bool]api.Expr{true: op(api.XEq, num(1), num(1)), false: op(api.XEq, num(1), num(2))}

func TestCheck(t *testing.T) {
	many := make([]api.Expr, 18)
	for i := range many {
		many[i] = num(1)
	}
	for i, c := range []struct {
		e    api.Expr
		want int
		code api.Errno
	}{
		{num(1 << 62), api.TNumber, 0}, {num(1<<62 + 1), 0, api.ErrFormat}, {num(-1 << 62), api.TNumber, 0}, {num(-1<<62 - 1), 0, api.ErrFormat}, {str("a"), api.TText, 0}, {str("\""), 0, api.ErrFormat}, {str("\n"), 0, api.ErrFormat},
		{str(string(make([]byte, 101))), 0, api.ErrFormat}, {name("amount"), api.TNumber, 0}, {name("card"), api.TText, 0}, {name("token"), api.TBool, 0}, {name("none"), 0, api.ErrNone}, {name("a-b"), 0, api.ErrFormat},
		{count("card", 1), api.TNumber, 0}, {sum("card", 10000000), api.TNumber, 0}, {count("card", 0), 0, api.ErrFormat}, {sum("card", 10000001), 0, api.ErrFormat}, {count("amount", 1), 0, api.ErrType}, {sum("none", 1), 0, api.ErrNone},
		{op(api.XNot, name("token")), api.TBool, 0}, {op(api.XNot, num(1)), 0, api.ErrType}, {op(api.XNot), 0, api.ErrFormat}, {op(api.XNeg, num(1)), api.TNumber, 0}, {op(api.XNeg, str("a")), 0, api.ErrType}, {op(api.XNeg, num(1), num(1)), 0, api.ErrFormat},
		{op(api.XAnd, name("token"), name("token")), api.TBool, 0}, {op(api.XAnd, num(1), name("token")), 0, api.ErrType}, {op(api.XOr, name("token"), num(1)), 0, api.ErrType}, {op(api.XOr, name("token")), 0, api.ErrFormat},
		{op(api.XEq, name("token"), name("token")), api.TBool, 0}, {op(api.XEq, str(""), name("card")), api.TBool, 0}, {op(api.XNe, num(1), str("")), 0, api.ErrType}, {op(api.XLt, num(1), num(2)), api.TBool, 0}, {op(api.XLe, str(""), str("")), 0, api.ErrType},
		{op(api.XAdd, num(1), num(2)), api.TNumber, 0}, {op(api.XSub, num(1), num(2)), api.TNumber, 0}, {op(api.XMul, num(1), num(2)), api.TNumber, 0}, {op(api.XMul, str(""), str("")), 0, api.ErrType},
		{op(api.XIn, many[:17]...), api.TBool, 0}, {op(api.XIn, many...), 0, api.ErrFormat}, {op(api.XIn, num(1)), 0, api.ErrFormat}, {op(api.XIn, name("token"), name("token")), 0, api.ErrType}, {op(api.XIn, str(""), num(1)), 0, api.ErrType},
		{deep(8), api.TBool, 0}, {deep(9), 0, api.ErrDepth}, {op(api.XNot, op(99, deep(8))), 0, api.ErrDepth}, {op(0), 0, api.ErrFormat}, {op(18), 0, api.ErrFormat}, {op(-1), 0, api.ErrFormat},
		{api.Expr{Op: api.XText, Text: "a", Args: []api.Expr{num(1), num(2)}}, 0, api.ErrFormat}, {api.Expr{Op: api.XNumber, N: 1, Name: "a"}, 0, api.ErrFormat}, {api.Expr{Op: api.XNumber, Text: "a"}, 0, api.ErrFormat}, {api.Expr{Op: api.XText, N: 1}, 0, api.ErrFormat}, {api.Expr{Op: api.XText, Name: "a"}, 0, api.ErrFormat},
		{api.Expr{Op: api.XName, Name: "card", N: 1}, 0, api.ErrFormat}, {api.Expr{Op: api.XName, Name: "card", Text: "x"}, 0, api.ErrFormat}, {api.Expr{Op: api.XCount, Name: "card", N: 1, Text: "x"}, 0, api.ErrFormat}, {api.Expr{Op: api.XNot, N: 1, Args: []api.Expr{name("token")}}, 0, api.ErrFormat},
		{op(api.XAnd, name("none"), op(api.XNot, num(1))), 0, api.ErrNone}, {op(api.XAnd, op(api.XNot, num(1)), name("none")), 0, api.ErrType}, {op(api.XAdd, str(""), name("none")), 0, api.ErrNone},
	} {
		if n, code := expr.Check(c.e, features); n != c.want || code != c.code {
			t.Error(i, n, code)
		}
		if v, code := expr.Eval(c.e, features, nil); code != c.code || code == api.OK && v.Kind != c.want || code != api.OK && v != (api.Feature{}) {
			t.Error(i, v, code)
		}
	}
}

func TestFeatures(t *testing.T) {
	ok := api.Feature{Name: "a", Kind: api.TBool, N: 1}
	for i, c := range []struct {
		l    []api.Feature
		want api.Errno
	}{
		{[]api.Feature{ok}, 0}, {[]api.Feature{{Name: "", Kind: 9}}, api.ErrName}, {[]api.Feature{ok, {Name: "a", Kind: 0}}, api.ErrRange}, {[]api.Feature{ok, ok}, api.ErrExists}, {[]api.Feature{{Name: "a", Kind: api.TBool, N: 2}}, api.ErrRange},
		{[]api.Feature{{Name: "a", Kind: api.TBool, N: -1}}, api.ErrRange}, {[]api.Feature{{Name: "a", Kind: api.TNumber, N: 1<<62 + 1}}, api.ErrRange}, {[]api.Feature{{Name: "a", Kind: api.TText, N: 1<<62 + 1, Text: "\x00"}}, 0}, {[]api.Feature{{Name: "a", Kind: 4}}, api.ErrRange},
		{[]api.Feature{ok, ok, {Name: "-"}}, api.ErrExists},
	} {
		if n, code := expr.Check(num(1), c.l); code != c.want || code != api.OK && n != 0 {
			t.Error(i, n, code)
		}
		if _, code := expr.Check(deep(9), c.l); c.want != api.OK && code != c.want {
			t.Error(i, code)
		}
	}
}

func TestEval(t *testing.T) {
	n := func(n int64) api.Feature { return api.Feature{Kind: api.TNumber, N: n} }
	yes, no := api.Feature{Kind: api.TBool, N: 1}, api.Feature{Kind: api.TBool}
	tok, big := name("token"), name("big")
	bad := op(api.XLt, op(api.XAdd, big, num(1)), num(0))
	for i, c := range []struct {
		e    api.Expr
		want api.Feature
		code api.Errno
	}{
		{op(api.XAdd, name("amount"), num(1)), n(6), 0}, {op(api.XAdd, big, num(1)), api.Feature{}, api.ErrRange}, {op(api.XAdd, big, big), api.Feature{}, api.ErrRange}, {op(api.XSub, op(api.XNeg, big), big), api.Feature{}, api.ErrRange}, {op(api.XSub, op(api.XNeg, big), num(1)), api.Feature{}, api.ErrRange},
		{op(api.XSub, num(1), num(3)), n(-2), 0}, {op(api.XNeg, big), n(-1 << 62), 0}, {op(api.XMul, num(-3), num(4)), n(-12), 0}, {op(api.XMul, num(-3), num(-4)), n(12), 0}, {op(api.XMul, num(1<<31), num(1<<31)), n(1 << 62), 0}, {op(api.XMul, num(1<<31), num(-1<<31)), n(-1 << 62), 0},
		{op(api.XMul, num(1<<31+1), num(1<<31)), api.Feature{}, api.ErrRange}, {op(api.XMul, big, big), api.Feature{}, api.ErrRange}, {op(api.XMul, num(0), op(api.XNeg, big)), n(0), 0},
		{name("card"), api.Feature{Kind: api.TText, Text: "c1"}, 0}, {tok, yes, 0}, {op(api.XNot, tok), no, 0}, {op(api.XEq, name("card"), str("c1")), yes, 0}, {op(api.XNe, name("card"), str("c1")), no, 0}, {op(api.XEq, tok, op(api.XEq, num(1), num(1))), yes, 0},
		{op(api.XLt, num(1), num(1)), no, 0}, {op(api.XLe, num(1), num(1)), yes, 0}, {op(api.XLt, num(-1), num(1)), yes, 0}, {op(api.XLe, num(2), num(1)), no, 0},
		{op(api.XAnd, op(api.XNot, tok), bad), no, 0}, {op(api.XAnd, tok, bad), api.Feature{}, api.ErrRange}, {op(api.XOr, tok, bad), yes, 0}, {op(api.XOr, op(api.XNot, tok), tok), yes, 0}, {op(api.XAnd, tok, op(api.XNot, tok)), no, 0}, {op(api.XAnd, bad, op(api.XNot, tok)), api.Feature{}, api.ErrRange},
		{op(api.XIn, num(5), name("amount"), op(api.XAdd, big, big)), yes, 0}, {op(api.XIn, num(6), name("amount"), op(api.XAdd, big, big)), api.Feature{}, api.ErrRange}, {op(api.XIn, str("x"), str("y"), str("x")), yes, 0}, {op(api.XIn, str("x"), str("y")), no, 0},
		{count("card", 60), n(3), 0}, {sum("card", 60), n(180), 0}, {op(api.XNot, bad), api.Feature{}, api.ErrRange},
	} {
		if v, code := expr.Eval(c.e, features, &fixed{n: 3}); v != c.want || code != c.code {
			t.Error(i, v, code)
		}
		if v, code := expr.Eval(expr.Fold(c.e), features, &fixed{n: 3}); v != c.want || code != c.code {
			t.Error(i, "folded", v, code)
		}
	}
	if v, code := expr.Eval(op(api.XAdd, count("card", 1), sum("card", 1)), features, nil); v != n(0) || code != api.OK {
		t.Error(v, code)
	}
	for _, e := range []api.Expr{count("card", 1), sum("card", 1)} {
		if v, code := expr.Eval(e, features, &fixed{n: 1<<62 + 1}); v != (api.Feature{}) || code != api.ErrRange {
			t.Error(v, code)
		}
	}
	s := &fixed{}
	if expr.Eval(op(api.XOr, tok, op(api.XLt, count("card", 1), num(1))), features, s); len(s.asked) != 0 {
		t.Error("the second argument was evaluated")
	}
}

func TestNames(t *testing.T) {
	e := op(api.XAnd, op(77, name("z"), name("a"), name("z")), op(api.XLt, count("c", 60), sum("b", 600)), api.Expr{Op: api.XNumber, Name: "unused", N: 9999}, count("c", -5))
	if l := expr.Names(e); !slices.Equal(l, []string{"a", "b", "c", "z"}) {
		t.Error(l)
	}
	if l, n := expr.Windows(e); !slices.Equal(l, []string{"b", "c"}) || n != 600 {
		t.Error(l, n)
	}
	if l, n := expr.Windows(op(1, count("c", -5))); len(l) != 1 || n != 0 || len(expr.Names(num(1))) != 0 {
		t.Error(l, n)
	}
	if expr.Levels(num(1)) != 1 || expr.Levels(e) != 3 || expr.Levels(op(api.XIn, num(1), deep(4), num(2))) != 5 {
		t.Error(expr.Levels(e))
	}
}

func TestFold(t *testing.T) {
	a := name("amount")
	overflow := op(api.XAdd, num(1<<62), op(api.XAdd, num(1), num(2)))
	for i, c := range []struct{ e, want api.Expr }{
		{op(api.XLt, op(api.XMul, num(2), num(3)), a), op(api.XLt, num(6), a)}, {op(api.XLt, op(api.XMul, num(2), num(3)), num(7)), truths[true]}, {op(api.XNot, truths[true]), truths[false]}, {num(-3), num(-3)}, {op(api.XNeg, num(3)), num(-3)}, {str("x"), str("x")},
		{overflow, op(api.XAdd, num(1<<62), num(3))}, {op(api.XAdd, op(api.XNeg, num(1)), str("x")), op(api.XAdd, num(-1), str("x"))}, {op(api.XAnd, truths[false], name("token")), op(api.XAnd, truths[false], name("token"))},
		{op(api.XIn, a, op(api.XAdd, num(1), num(1)), str("x")), op(api.XIn, a, num(2), str("x"))}, {count("card", 5), count("card", 5)}, {op(api.XNot, op(api.XNeg, op(99))), op(api.XNot, op(api.XNeg, op(99)))},
		{op(api.XAnd, deep(8), op(api.XLt, num(1), num(2))), op(api.XAnd, deep(8), op(api.XLt, num(1), num(2)))},
	} {
		f := expr.Fold(c.e)
		if !expr.Same(f, c.want) || !expr.Same(expr.Fold(f), f) || expr.Levels(f) > expr.Levels(c.e) || !slices.Equal(expr.Names(f), expr.Names(c.e)) {
			t.Error(i, f)
		}
		n1, code1 := expr.Check(c.e, features)
		if n2, code2 := expr.Check(f, features); n1 != n2 || code1 != code2 {
			t.Error(i, n1, n2, code1, code2)
		}
	}
	e := op(api.XLt, a, num(1))
	f := expr.Fold(e)
	f.Args[0].Name = "changed"
	if e.Args[0].Name != "amount" {
		t.Error("shared memory")
	}
}

func TestSame(t *testing.T) {
	e := op(api.XAnd, name("a"), num(1))
	for i, c := range []struct {
		x    api.Expr
		want bool
	}{
		{op(api.XAnd, name("a"), num(1)), true}, {op(api.XOr, name("a"), num(1)), false}, {op(api.XAnd, name("b"), num(1)), false}, {op(api.XAnd, name("a"), num(2)), false}, {op(api.XAnd, name("a")), false}, {op(api.XAnd, str("a"), num(1)), false},
		{api.Expr{Op: api.XAnd, Text: "x", Args: e.Args}, false},
	} {
		if expr.Same(e, c.x) != c.want || expr.Same(c.x, e) != c.want {
			t.Error(i)
		}
	}
	if !expr.Same(num(1), api.Expr{Op: api.XNumber, N: 1, Args: []api.Expr{}}) {
		t.Error("no arguments")
	}
}

// TestForms adds to each well-formed expression a field that its operator does not have.
func TestForms(t *testing.T) {
	tok := name("token")
	var l []api.Expr
	for _, o := range []int{api.XAnd, api.XOr} {
		l = append(l, op(o, tok, tok))
	}
	for _, o := range []int{api.XEq, api.XNe, api.XLt, api.XLe, api.XAdd, api.XSub, api.XMul, api.XIn} {
		l = append(l, op(o, num(1), num(2)))
	}
	l = append(l, num(1), str("a"), name("card"), op(api.XNot, tok), op(api.XNeg, num(1)), count("card", 5), sum("card", 5))
	for i, e := range l {
		if _, code := expr.Check(e, features); code != api.OK {
			t.Error(i, code)
		}
		for k := range 4 {
			x := e
			switch {
			case k == 0 && x.Text == "":
				x.Text = "x"
			case k == 1 && x.Name == "":
				x.Name = "x"
			case k == 2 && x.N == 0:
				x.N = 1
			case k == 3 && x.Op != api.XIn:
				x.Args = append(slices.Clone(x.Args), num(1))
			default:
				continue
			}
			for _, y := range []api.Expr{x, op(api.XNot, x)} {
				if _, code := expr.Check(y, features); code != api.ErrFormat {
					t.Error(i, k, code)
				}
				if !expr.Same(expr.Fold(y), y) {
					t.Error(i, k, expr.Fold(y))
				}
			}
		}
		if len(e.Args) > 0 {
			e.Args = e.Args[1:]
			if _, code := expr.Check(e, features); code != api.ErrFormat {
				t.Error(i, code)
			}
		}
	}
	for s, want := range map[string]api.Errno{strings.Repeat("x", 100): api.OK, strings.Repeat("x", 101): api.ErrFormat, " ": api.OK, "~": api.OK, "\x1f": api.ErrFormat, "\x7f": api.ErrFormat, "!#": api.OK, "\"": api.ErrFormat} {
		if _, code := expr.Check(str(s), nil); code != want {
			t.Error(s, code)
		}
	}
	for _, n := range []string{"", "a-b", "9"} {
		for _, e := range []api.Expr{name(n), count(n, 5), sum(n, 5)} {
			if _, code := expr.Check(e, nil); code != api.ErrFormat {
				t.Error(n, code)
			}
		}
	}
	if kind, code := expr.Check(name("no"), []api.Feature{{Name: "no", Kind: api.TBool}}); kind != api.TBool || code != api.OK {
		t.Error(kind, code)
	}
}

// TestProducts multiplies numbers whose product would be a number again if it overflowed.
func TestProducts(t *testing.T) {
	for _, c := range [][2]int64{{3, 1 << 62}, {-3, 1 << 62}, {1 << 62, 1 << 62}, {1 << 32, 1 << 32}, {1<<32 + 1, 1 << 32}, {1<<31 + 1, 1 << 31}, {-1<<31 - 1, 1 << 31}} {
		if v, code := expr.Eval(op(api.XMul, num(c[0]), num(c[1])), nil, nil); v != (api.Feature{}) || code != api.ErrRange {
			t.Error(c, v, code)
		}
	}
	for _, c := range [][3]int64{{1 << 31, 1 << 31, 1 << 62}, {-1 << 31, -1 << 31, 1 << 62}, {1 << 62, -1, -1 << 62}, {0, -5, 0}, {-1, 0, 0}} {
		if v, code := expr.Eval(op(api.XMul, num(c[0]), num(c[1])), nil, nil); v.N != c[2] || v.Kind != api.TNumber || code != api.OK {
			t.Error(c, v, code)
		}
	}
}
