package ruletext

import (
	"strconv"
	"strings"

	"cardnet/api"
	"cardnet/plain"
)

// The levels of the grammar, from the loosest to the tightest one.
const (
	orLevel = iota
	andLevel
	compLevel
	sumLevel
	prodLevel
	unaryLevel
	tightLevel
)

// isWritable reports whether every part of e has exactly the fields of its operator.
func isWritable(e api.Expr) bool {
	for _, a := range e.Args {
		if !isWritable(a) {
			return false
		}
	}
	n := len(e.Args)
	switch e.Op {
	case api.XNumber:
		return n == 0 && e.Name == "" && e.Text == "" && isCount(e.N)
	case api.XText:
		return n == 0 && e.Name == "" && plain.IsLiteral(e.Text) && e.N == 0
	case api.XName:
		return n == 0 && isName(e.Name) && e.Text == "" && e.N == 0
	case api.XCount, api.XSum:
		return n == 0 && isName(e.Name) && e.Text == "" && isCount(e.N)
	}
	if e.Name != "" || e.Text != "" || e.N != 0 {
		return false
	}
	switch e.Op {
	case api.XNot, api.XNeg:
		return n == 1
	case api.XIn:
		return n >= 2
	}
	return infix(e.Op) != "" && n == 2
}

func isCount(n int64) bool { return n >= 0 && n <= maxNumber }

// infix returns the text of an operator between two operands, and the empty string for all others.
func infix(op int) string {
	switch op {
	case api.XOr:
		return " or "
	case api.XAnd:
		return " and "
	case api.XEq:
		return " = "
	case api.XNe:
		return " != "
	case api.XLt:
		return " < "
	case api.XLe:
		return " <= "
	case api.XAdd:
		return " + "
	case api.XSub:
		return " - "
	case api.XMul:
		return " * "
	}
	return ""
}

func levelOf(op int) int {
	switch op {
	case api.XOr:
		return orLevel
	case api.XAnd:
		return andLevel
	case api.XEq, api.XNe, api.XLt, api.XLe, api.XIn:
		return compLevel
	case api.XAdd, api.XSub:
		return sumLevel
	case api.XMul:
		return prodLevel
	case api.XNot, api.XNeg:
		return unaryLevel
	}
	return tightLevel
}

// Expr returns the canonical text of an expression.
func Expr(e api.Expr) string {
	if !isWritable(e) {
		return ""
	}
	var b strings.Builder
	write(&b, e, orLevel)
	return b.String()
}

// write writes an expression where the grammar requires a level.
func write(b *strings.Builder, e api.Expr, level int) {
	if levelOf(e.Op) < level {
		b.WriteByte('(')
		defer b.WriteByte(')')
	}
	switch e.Op {
	case api.XNumber:
		b.WriteString(strconv.FormatInt(e.N, 10))
	case api.XText:
		b.WriteString("\"" + e.Text + "\"")
	case api.XName:
		b.WriteString(e.Name)
	case api.XCount:
		b.WriteString("count(" + e.Name + ", " + strconv.FormatInt(e.N, 10) + ")")
	case api.XSum:
		b.WriteString("sum(" + e.Name + ", " + strconv.FormatInt(e.N, 10) + ")")
	case api.XNot:
		b.WriteString("not ")
		write(b, e.Args[0], unaryLevel)
	case api.XNeg:
		b.WriteByte('-')
		write(b, e.Args[0], unaryLevel)
	case api.XIn:
		writeIn(b, e.Args)
	default:
		writeInfix(b, e)
	}
}

func writeInfix(b *strings.Builder, e api.Expr) {
	level := levelOf(e.Op)
	left := level
	if level == compLevel {
		// Comparisons do not follow each other without parentheses.
		left = sumLevel
	}
	write(b, e.Args[0], left)
	b.WriteString(infix(e.Op))
	write(b, e.Args[1], level+1)
}

func writeIn(b *strings.Builder, args []api.Expr) {
	write(b, args[0], sumLevel)
	b.WriteString(" in (")
	for i, a := range args[1:] {
		if i > 0 {
			b.WriteString(", ")
		}
		write(b, a, sumLevel)
	}
	b.WriteByte(')')
}

func writeRule(b *strings.Builder, r api.Rule) {
	b.WriteString("rule " + r.Name + " when ")
	write(b, r.When, orLevel)
	b.WriteString(": " + actionName(r.Action))
	if r.Score != 0 {
		b.WriteString(" score " + strconv.Itoa(r.Score))
	}
	b.WriteString(";\n")
}
