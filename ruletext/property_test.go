package ruletext_test

import (
	"math/rand"
	"reflect"
	"testing"

	"cardnet/api"
	"cardnet/ruletext"
)

// random returns a writable expression of some depth.
func random(r *rand.Rand, depth int) api.Expr {
	if depth == 0 || r.Intn(5) == 0 {
		return []api.Expr{num(int64(r.Intn(9))), a, b, {Op: api.XText, Text: "x y"}, {Op: api.XCount, Name: "c", N: 60}, {Op: api.XSum, Name: "c", N: 7}}[r.Intn(6)]
	}
	sub := func() api.Expr { return random(r, depth-1) }
	switch k := r.Intn(12); k {
	case 0:
		return op(api.XNot, sub())
	case 1:
		return op(api.XNeg, sub())
	case 2:
		e := op(api.XIn, sub(), sub())
		for range r.Intn(3) {
			e.Args = append(e.Args, sub())
		}
		return e
	default:
		return op([]int{api.XAnd, api.XOr, api.XEq, api.XNe, api.XLt, api.XLe, api.XAdd, api.XSub, api.XMul}[k-3], sub(), sub())
	}
}

func TestEveryExpression(t *testing.T) {
	r := rand.New(rand.NewSource(1))
	for range 5000 {
		e := random(r, 1+r.Intn(5))
		s := ruletext.Expr(e)
		if len(s) > api.MaxText {
			continue
		}
		if x, code, at := ruletext.ParseExpr(s); !reflect.DeepEqual(x, e) || code != api.OK {
			t.Fatal(s, code, at)
		}
		// No pair of parentheses can be left out without changing the meaning.
		for i, c := range s {
			if c != '(' {
				continue
			}
			depth, end := 0, i
			for end = i; ; end++ {
				if s[end] == '(' {
					depth++
				} else if s[end] == ')' {
					if depth--; depth == 0 {
						break
					}
				}
			}
			without := s[:i] + " " + s[i+1:end] + " " + s[end+1:]
			if x, code, _ := ruletext.ParseExpr(without); code == api.OK && reflect.DeepEqual(x, e) {
				t.Fatal(s, without)
			}
		}
	}
}
