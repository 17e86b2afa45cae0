package expr_test

import (
	"math/rand"
	"slices"
	"testing"

	"cardnet/api"
	"cardnet/expr"
)

// random returns an expression of some depth, which often has the required types.
func random(r *rand.Rand, depth, kind int) api.Expr {
	if r.Intn(30) == 0 {
		kind = 1 + r.Intn(3)
	}
	if depth == 0 || r.Intn(6) == 0 {
		switch kind {
		case api.TNumber:
			return []api.Expr{num(int64(r.Intn(7) - 3)), num(1 << 62), name("amount"), name("big"), count("card", 5), num(3)}[r.Intn(6)]
		case api.TText:
			return []api.Expr{str("c1"), str(""), name("card")}[r.Intn(3)]
		}
		return []api.Expr{name("token"), op(api.XEq, num(1), num(int64(r.Intn(2))))}[r.Intn(2)]
	}
	sub := func(kind int) api.Expr { return random(r, depth-1, kind) }
	switch kind {
	case api.TNumber:
		if r.Intn(5) == 0 {
			return op(api.XNeg, sub(kind))
		}
		return op([]int{api.XAdd, api.XSub, api.XMul}[r.Intn(3)], sub(kind), sub(kind))
	case api.TText:
		return str("x")
	}
	same := 1 + r.Intn(3)
	switch r.Intn(5) {
	case 0:
		return op(api.XNot, sub(kind))
	case 1:
		return op([]int{api.XAnd, api.XOr}[r.Intn(2)], sub(kind), sub(kind))
	case 2:
		return op([]int{api.XEq, api.XNe}[r.Intn(2)], sub(same), sub(same))
	case 3:
		return op([]int{api.XLt, api.XLe}[r.Intn(2)], sub(api.TNumber), sub(api.TNumber))
	}
	same = 1 + r.Intn(2)
	return op(api.XIn, sub(same), sub(same), sub(same))
}

func TestFoldKeepsValues(t *testing.T) {
	r := rand.New(rand.NewSource(1))
	values := 0
	for range 20000 {
		e := random(r, r.Intn(6), 1+r.Intn(3))
		f := expr.Fold(e)
		n1, c1 := expr.Check(e, features)
		n2, c2 := expr.Check(f, features)
		v1, e1 := expr.Eval(e, features, &fixed{n: 3})
		v2, e2 := expr.Eval(f, features, &fixed{n: 3})
		if n1 != n2 || c1 != c2 || v1 != v2 || e1 != e2 {
			t.Fatal(e, f, n1, n2, c1, c2, v1, v2, e1, e2)
		}
		if !expr.Same(expr.Fold(f), f) || expr.Levels(f) > expr.Levels(e) || !slices.Equal(expr.Names(e), expr.Names(f)) {
			t.Fatal(e, f)
		}
		if e1 == api.OK {
			values++
			if v1.Kind != n1 || v1.Name != "" {
				t.Fatal(e, v1)
			}
		}
	}
	if values < 5000 {
		t.Error(values)
	}
}
