package reason_test

import (
	"reflect"
	"slices"
	"strconv"
	"strings"
	"testing"

	"cardnet/api"
	"cardnet/reason"
)

func fraud() api.Reason {
	return api.Reason{Code: "fraud", FileDays: 120, RepresentDays: 45, PrearbDays: 30, AnswerDays: 31, Claim: []string{"letter", "photo"}, Defence: []string{"receipt"}}
}

func numbered(n int) []api.Reason {
	var l []api.Reason
	for i := range n {
		r := fraud()
		r.Code = "r" + strconv.Itoa(i)
		l = append(l, r)
	}
	return l
}

func TestCheck(t *testing.T) {
	nine := strings.Split("a b c d e f g h i", " ")
	for i, c := range []struct {
		change func(r *api.Reason)
		want   api.Errno
	}{
		{func(r *api.Reason) {}, 0}, {func(r *api.Reason) { r.Code, r.FileDays = "a-b", 0 }, api.ErrName}, {func(r *api.Reason) { r.Code, r.FileDays = "first", 0 }, api.ErrExists}, {func(r *api.Reason) { r.FileDays, r.Claim = 0, nine }, api.ErrRange}, {func(r *api.Reason) { r.RepresentDays = 1001 }, api.ErrRange}, {func(r *api.Reason) { r.PrearbDays = -1 }, api.ErrRange}, {func(r *api.Reason) { r.AnswerDays = 0 }, api.ErrRange},
		{func(r *api.Reason) { r.Claim, r.Defence = nine, []string{""} }, api.ErrLong}, {func(r *api.Reason) { r.Claim = nine[:8] }, 0}, {func(r *api.Reason) { r.Claim, r.Defence = []string{"a", "claim", "a"}, nine }, api.ErrName}, {func(r *api.Reason) { r.Claim = []string{"a", "a", ""} }, api.ErrExists}, {func(r *api.Reason) { r.Defence = nine }, api.ErrLong}, {func(r *api.Reason) { r.Defence = []string{"defence"} }, api.ErrName}, {func(r *api.Reason) { r.Claim = []string{"a-b"} }, api.ErrName}, {func(r *api.Reason) { r.FileDays, r.RepresentDays, r.PrearbDays, r.AnswerDays = 1, 1000, 1000, 1 }, 0},
		{func(r *api.Reason) { r.Claim, r.Defence = nil, []string{"letter", "a"} }, 0}, {func(r *api.Reason) { r.Code = "claim" }, 0},
	} {
		first, r := fraud(), fraud()
		first.Code = "first"
		c.change(&r)
		l := []api.Reason{first, r}
		if e := reason.Check(l); e != c.want || (reason.Format(l) == "") != (e != api.OK) {
			t.Error(i, e, reason.Format(l))
		}
		if x, e, at := reason.Parse(reason.Format(l)); c.want == api.OK && (!reflect.DeepEqual(x, l) || e != api.OK || at != 0) {
			t.Error(i, x, e, at)
		}
	}
	if reason.Check(numbered(32)) != api.OK || reason.Check(numbered(33)) != api.ErrLong || reason.Check(nil) != api.OK || reason.Check(make([]api.Reason, 33)) != api.ErrLong {
		t.Error("numbers of reasons")
	}
}

func TestSteps(t *testing.T) {
	r := fraud()
	for stage, want := range map[int]int{0: 120, 1: 45, 2: 30, 3: 31} {
		if n, e := reason.Days(r, stage); n != want || e != api.OK {
			t.Error(stage, n, e)
		}
		if n, e := reason.Due(r, stage, 100); n != 100+want || e != api.OK {
			t.Error(stage, n, e)
		}
	}
	for _, stage := range []int{-1, 4, 5, 6, 7} {
		n, e := reason.Days(r, stage)
		m, f := reason.Due(api.Reason{}, stage, -1)
		if n != 0 || m != 0 || e != api.ErrState || f != e {
			t.Error(stage, n, e)
		}
	}
	for i, c := range []struct {
		days, date int
		want       api.Errno
	}{{0, -1, api.ErrRange}, {1001, 0, api.ErrRange}, {1, -1, api.ErrTime}, {1, api.MaxDate, api.ErrTime}, {1000, api.MaxDate - 1000, 0}, {1000, 1 << 62, api.ErrTime}} {
		n, e := reason.Due(api.Reason{FileDays: c.days}, 0, c.date)
		if e != c.want || e == api.OK && n != c.date+c.days || e != api.OK && n != 0 {
			t.Error(i, n, e)
		}
	}
	needs := reason.Needs(r, api.DsChargeback)
	if !slices.Equal(needs, r.Claim) || !slices.Equal(reason.Needs(r, api.DsRepresented), r.Defence) || len(reason.Needs(r, 0)) != 0 || len(reason.Needs(r, 3)) != 0 {
		t.Error(needs)
	}
	needs[0] = "changed"
	x, ok := reason.Find([]api.Reason{{Code: "x"}, r, {Code: "fraud"}}, "fraud")
	if !reflect.DeepEqual(x, fraud()) || !ok {
		t.Error(x, ok)
	}
	x.Claim[0] = "changed"
	if x, ok := reason.Find([]api.Reason{r}, "none"); !reflect.DeepEqual(x, api.Reason{}) || ok || r.Claim[0] != "letter" {
		t.Error(x, ok)
	}
}

func TestText(t *testing.T) {
	l := []api.Reason{fraud(), {Code: "late", FileDays: 1, RepresentDays: 2, PrearbDays: 3, AnswerDays: 1000}}
	const text = "reason fraud 120 45 30 31 claim letter photo defence receipt;\nreason late 1 2 3 1000 claim defence;\n"
	if reason.Format(l) != text || reason.Format(nil) != "" {
		t.Error(reason.Format(l))
	}
	for _, s := range []string{text, "#\n" + strings.ReplaceAll(text, " ", "\t ")} {
		if x, e, at := reason.Parse(s); !reflect.DeepEqual(x, l) || e != api.OK || at != 0 {
			t.Error(x, e, at)
		}
	}
	full := reason.Format(numbered(32))
	for _, c := range []struct {
		s  string
		e  api.Errno
		at int
	}{
		{"reason a 1 2 3 1001 claim defence;", api.ErrRange, 15}, {"reason a 1 2 3 4 claim x x defence;", api.ErrExists, 25}, {"reason", api.ErrFormat, 6}, {"x", api.ErrFormat, 0}, {"reason 1", api.ErrFormat, 7}, {"reason a x", api.ErrFormat, 9}, {"reason a 0 x", api.ErrRange, 9}, {"reason a 1 2 3 claim", api.ErrFormat, 15}, {"reason a 1 2 3 4 x", api.ErrFormat, 17},
		{"reason a 1 2 3 4 claim x claim", api.ErrFormat, 25}, {"reason a 1 2 3 4 claim x;", api.ErrFormat, 24}, {"reason a 1 2 3 4 claim defence defence;", api.ErrFormat, 31}, {"reason a 1 2 3 4 claim defence x", api.ErrFormat, 32}, {"reason a 1 2 3 4 claim a b c d e f g h a defence;", api.ErrLong, 39}, {"reason a 1 2 3 4 claim defence a a;", api.ErrExists, 33},
		{"reason a 1 2 3 4 claim defence; reason a 0", api.ErrExists, 39}, {"reason a 1 2 3 4 claim defence; 01", api.ErrFormat, 32}, {full + "reason", api.ErrLong, len(full)}, {full + "x", api.ErrFormat, len(full)}, {full + "\"reason\"", api.ErrFormat, len(full)}, {"reason a 1 2 3 4 claim \"x\" defence;", api.ErrFormat, 23}, {"reason \"a\" 1 2 3 4 claim defence;", api.ErrFormat, 7}, {"\"reason\" a", api.ErrFormat, 0}, {"reason a 1 2 3 4 claim defence\";\"", api.ErrFormat, 30}, {strings.Repeat(" ", 4001), api.ErrLong, 0}, {"reason a 1 2 3 4 claim defence;;", api.ErrFormat, 31},
	} {
		if x, e, at := reason.Parse(c.s); len(x) != 0 || e != c.e || at != c.at {
			t.Error(c.s, x, e, at)
		}
	}
	if x, e, at := reason.Parse(full); len(x) != 32 || e != api.OK || at != 0 {
		t.Error(len(x), e, at)
	}
}
