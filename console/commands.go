package console

import (
	"strconv"
	"strings"

	"cardnet/api"
	"cardnet/binrange"
	"cardnet/calendar"
	"cardnet/feetext"
	"cardnet/money"
	"cardnet/pan"
	"cardnet/rate"
	"cardnet/ruletext"
)

// perform executes a command with its arguments.
func (c *Console) perform(name string, a arguments) ([]string, failure) {
	switch name {
	case "pan":
		s, e := pan.Make(a.words[0], a.numbers[0], a.numbers[1])
		return []string{s}, failed(e)
	case "check":
		return []string{"ok"}, failed(pan.Check(a.words[0]))
	case "convert":
		return convert(a)
	case "split":
		return split(a)
	case "business":
		return business(a)
	case "ranges":
		return ranges(a.text)
	case "rules":
		l, e, at := ruletext.Parse(a.text)
		return linesOf(ruletext.Format(l)), failure{e, at, true}
	case "fees":
		l, e, at := feetext.Parse(a.text)
		return linesOf(feetext.Format(l)), failure{e, at, true}
	case "network":
		return c.network(a.numbers[0], a.numbers[1], int64(a.numbers[2]))
	}
	return c.onNetwork(name, a)
}

// linesOf cuts a text into its lines.
func linesOf(text string) []string {
	if text == "" {
		return nil
	}
	return strings.Split(strings.TrimSuffix(text, "\n"), "\n")
}

func amount(n int64) string { return strconv.FormatInt(n, 10) }

func convert(a arguments) ([]string, failure) {
	m, e := money.Parse(a.words[0] + " " + a.words[1])
	if e != api.OK {
		return nil, failed(e)
	}
	r, e := rate.Parse(a.words[2] + " " + a.words[3])
	if e != api.OK {
		return nil, failed(e)
	}
	x, e := rate.Convert(m, r, api.HalfEven)
	return []string{money.Format(x)}, failed(e)
}

func split(a arguments) ([]string, failure) {
	m, e := money.Parse(a.words[0] + " " + a.words[1])
	if e != api.OK {
		return nil, failed(e)
	}
	var weights []int64
	for _, n := range a.numbers {
		weights = append(weights, int64(n))
	}
	parts, e := money.Split(m, weights)
	var lines []string
	for _, p := range parts {
		lines = append(lines, money.Format(p))
	}
	return lines, failed(e)
}

func business(a arguments) ([]string, failure) {
	date, e := calendar.Parse(a.words[0])
	if e != api.OK {
		return nil, failed(e)
	}
	days, e := calendar.New(nil)
	if e != api.OK {
		return nil, failed(e)
	}
	date, e = days.Add(date, a.numbers[0])
	return []string{calendar.Format(date)}, failed(e)
}

func ranges(text string) ([]string, failure) {
	l, e, at := binrange.Parse(text)
	if e != api.OK {
		return nil, failure{e, at, true}
	}
	l, e = binrange.Merge(l)
	return linesOf(binrange.Format(l)), failed(e)
}
