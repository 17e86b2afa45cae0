// Package plain has the forms of texts and numbers that the document's rules R6 and R7 and its terms give for all layers.
package plain

import (
	"strconv"
	"strings"

	"cardnet/api"
)

const maxLiteral = 100

// Number returns the number that is written as R6 requires, and whether s is written so.
func Number(s string) (int64, bool) {
	n, err := strconv.ParseInt(s, 10, 64)
	// The way back excludes plus signs, leading zeros and minus zero.
	if err != nil || strconv.FormatInt(n, 10) != s {
		return 0, false
	}
	return n, true
}

// Digits returns the decimal digits of n with leading zeros, for n from 0 on.
func Digits(n int64, width int) string {
	s := strconv.FormatInt(n, 10)
	for len(s) < width {
		s = "0" + s
	}
	return s
}

// IsDigit reports whether c is a decimal digit.
func IsDigit(c byte) bool { return c >= '0' && c <= '9' }

// IsLetter reports whether c is a letter of ASCII.
func IsLetter(c byte) bool { return c >= 'a' && c <= 'z' || c >= 'A' && c <= 'Z' }

// IsDigits reports whether s consists of digits, at least one.
func IsDigits(s string) bool {
	for i := range len(s) {
		if !IsDigit(s[i]) {
			return false
		}
	}
	return s != ""
}

// IsHex reports whether s consists of lower-case hexadecimal digits only.
func IsHex(s string) bool {
	for i := range len(s) {
		if !IsDigit(s[i]) && (s[i] < 'a' || s[i] > 'f') {
			return false
		}
	}
	return true
}

// IsPrintable reports whether all bytes of s are from 32 to 126.
func IsPrintable(s string) bool {
	for i := range len(s) {
		if s[i] < 32 || s[i] > 126 {
			return false
		}
	}
	return true
}

// IsLiteral reports whether s can stand between the quotation marks of a text in the rule languages.
func IsLiteral(s string) bool {
	return len(s) <= maxLiteral && IsPrintable(s) && !strings.Contains(s, "\"")
}

// IsName reports whether s is a name (R7).
func IsName(s string) bool {
	if s == "" || len(s) > api.MaxName || !IsLetter(s[0]) {
		return false
	}
	for i := range len(s) {
		if !IsLetter(s[i]) && !IsDigit(s[i]) && s[i] != '_' {
			return false
		}
	}
	return true
}

// IsId reports whether s is an identification (R7).
func IsId(s string) bool {
	if s == "" || len(s) > api.MaxName {
		return false
	}
	for i := range len(s) {
		if !IsLetter(s[i]) && !IsDigit(s[i]) && s[i] != '_' && s[i] != '-' {
			return false
		}
	}
	return true
}

// IsCurrency reports whether s consists of three capital letters.
func IsCurrency(s string) bool {
	if len(s) != 3 {
		return false
	}
	for i := range len(s) {
		if s[i] < 'A' || s[i] > 'Z' {
			return false
		}
	}
	return true
}

// IsDate reports whether n is a date.
func IsDate(n int) bool { return n >= 0 && n <= api.MaxDate }

// IsTime reports whether n is a time.
func IsTime(n int) bool { return n >= 0 && n <= api.MaxTime }

// IsAmount reports whether n is from least to MaxAmount.
func IsAmount(n, least int64) bool { return n >= least && n <= api.MaxAmount }

// CloneExpr returns a copy of e that shares no memory with it.
func CloneExpr(e api.Expr) api.Expr {
	if len(e.Args) == 0 {
		e.Args = nil
		return e
	}
	args := make([]api.Expr, len(e.Args))
	for i, a := range e.Args {
		args[i] = CloneExpr(a)
	}
	e.Args = args
	return e
}
