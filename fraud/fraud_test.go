package fraud_test

import (
	"slices"
	"strconv"
	"strings"
	"testing"

	"cardnet/api"
	"cardnet/fraud"
	"cardnet/ruletext"
)

func rules(t *testing.T, s string) []api.Rule {
	l, e, at := ruletext.Parse(s)
	if e != api.OK {
		t.Fatal(s, e, at)
	}
	return l
}

func engine(t *testing.T, s string, refer, decline int) *fraud.Engine {
	x, e := fraud.New(rules(t, s), refer, decline)
	if e != api.OK {
		t.Fatal(e)
	}
	return x
}

func sale(card string, amount int64) []api.Feature {
	return []api.Feature{{Name: "card", Kind: api.TText, Text: card}, {Name: "amount", Kind: api.TNumber, N: amount}, {Name: "merchant", Kind: api.TText, Text: "m"}}
}

const text = "rule many when 2 <= count(card, 60): refer score 30; rule large when 1000 < amount: pass score 80;"

func judge(t *testing.T, x *fraud.Engine, at int, l []api.Feature, want string) {
	t.Helper()
	v, e := x.Judge(at, l)
	if fraud.Explain(v) != want || e != api.OK {
		t.Error(fraud.Explain(v), e, want)
	}
}

func TestExample(t *testing.T) {
	x := engine(t, text, 50, 100)
	judge(t, x, 0, sale("c", 2000), "refer 80 large")
	if x.Record(10, sale("c", 5), 5) != api.OK || x.Record(20, sale("c", 5), 5) != api.OK {
		t.Error("Record")
	}
	judge(t, x, 30, sale("c", 2000), "decline 110 many large")
	judge(t, x, 69, sale("c", 1), "refer 30 many")
	judge(t, x, 70, sale("c", 1), "pass 0")
	judge(t, x, 80, sale("c", 2000), "refer 80 large")
	judge(t, x, 30, sale("d", 1), "pass 0")
	judge(t, x, 15, sale("c", 1), "pass 0")
	judge(t, x, 30, nil, "pass 0")
	judge(t, x, 30, []api.Feature{{Name: "card", Kind: api.TNumber}, {Name: "amount", Kind: api.TNumber, N: 2000}}, "refer 80 large")
	if !slices.Equal(x.Tracked(), []string{"card"}) {
		t.Error(x.Tracked())
	}
	for _, at := range []int{-1, api.MaxTime + 1} {
		if v, e := x.Judge(at, nil); v.Fired != nil || e != api.ErrTime {
			t.Error(v, e)
		}
	}
}

func TestActions(t *testing.T) {
	for _, c := range []struct {
		s, want        string
		refer, decline int
	}{
		{"rule a when 1 = 1: refer; rule b when 1 = 1: pass score 5;", "refer 5 a b", 6, 6}, {"rule a when 1 = 1: decline; rule b when 1 = 1: refer score 5;", "decline 5 a b", 5, 6}, {"rule a when 1 = 1: pass score 5;", "refer 5 a", 5, 6},
		{"rule a when 1 = 1: pass score 6;", "decline 6 a", 5, 6}, {"rule a when 1 = 1: pass score 4; rule b when 1 = 2: decline score 9;", "pass 4 a", 5, 6}, {"", "pass 0", 1, 1},
		{"rule a when sum(merchant, 9) <= 0 and not token: decline;", "decline 0 a", 5, 6},
	} {
		x := engine(t, c.s, c.refer, c.decline)
		judge(t, x, 5, fraud.Features(api.Message{}), c.want)
	}
	// A rule whose evaluation returns an error does not fire.
	x := engine(t, "rule a when amount * 4000000000000000 < 5 or 1 = 1: pass;", 5, 6)
	judge(t, x, 5, sale("c", 1), "pass 0 a")
	judge(t, x, 5, sale("c", 1<<62), "pass 0")
}

func TestNew(t *testing.T) {
	one := rules(t, "rule a when 1 = 1: pass;")[0]
	with := func(change func(r *api.Rule)) []api.Rule { r := one; change(&r); return []api.Rule{r} }
	bad := api.Expr{Op: api.XName, Name: "none"}
	for i, c := range []struct {
		l              []api.Rule
		refer, decline int
		want           api.Errno
	}{
		{[]api.Rule{one}, 1, 1000000, 0}, {make([]api.Rule, 65), 0, 0, api.ErrLong}, {make([]api.Rule, 64), 0, 0, api.ErrName}, {[]api.Rule{one, one}, 0, 0, api.ErrExists}, {with(func(r *api.Rule) { r.Name = "a-b" }), 1, 1, api.ErrName},
		{with(func(r *api.Rule) { r.Action = 3 }), 1, 1, api.ErrRange}, {with(func(r *api.Rule) { r.Action = -1 }), 1, 1, api.ErrRange}, {with(func(r *api.Rule) { r.Score = 1001 }), 1, 1, api.ErrRange}, {with(func(r *api.Rule) { r.Score = -1 }), 1, 1, api.ErrRange},
		{with(func(r *api.Rule) { r.When = bad }), 0, 1, api.ErrRange}, {nil, 2, 1, api.ErrRange}, {nil, 1, 1000001, api.ErrRange}, {with(func(r *api.Rule) { r.When = bad }), 1, 1, api.ErrNone}, {with(func(r *api.Rule) { r.When = api.Expr{} }), 1, 1, api.ErrFormat},
		{with(func(r *api.Rule) { r.When = api.Expr{Op: api.XNumber, N: 1} }), 1, 1, api.ErrType}, {append(with(func(r *api.Rule) { r.When = bad }), api.Rule{Name: "b", Action: 7}), 1, 1, api.ErrRange},
	} {
		if x, e := fraud.New(c.l, c.refer, c.decline); e != c.want || (x == nil) != (e != api.OK) {
			t.Error(i, e)
		}
	}
	l := rules(t, text)
	x, _ := fraud.New(l, 50, 100)
	l[0].When.Args[0].N = 0
	judge(t, x, 0, sale("c", 1), "pass 0")
}

func TestRecordUndo(t *testing.T) {
	x := engine(t, "rule many when 2 <= count(card, 60) or 9 < sum(merchant, 100): pass score 1;", 50, 100)
	long := sale(strings.Repeat("x", 36), 1)
	for i, c := range []struct{ got, want api.Errno }{
		{x.Record(10, sale("c", 1), 5), 0}, {x.Record(9, sale("c", 1), -1), api.ErrTime}, {x.Record(-1, nil, 0), api.ErrTime}, {x.Record(api.MaxTime+1, nil, 0), api.ErrTime}, {x.Record(10, long, -1), api.ErrRange}, {x.Record(10, long, api.MaxAmount+1), api.ErrRange}, {x.Record(10, long, 1), api.ErrName},
		{x.Record(10, sale(strings.Repeat("x", 35), 1), 0), 0}, {x.Record(20, nil, 0), 0}, {x.Record(19, sale("c", 1), 5), api.ErrTime},
		{x.Undo(10, sale("c", 1), 6), api.ErrNone}, {x.Undo(11, sale("c", 1), 5), api.ErrNone}, {x.Undo(10, sale("d", 1), 5), api.ErrNone}, {x.Undo(10, nil, 5), 0},
	} {
		if c.got != c.want {
			t.Error(i, c.got)
		}
	}
	judge(t, x, 20, sale("c", 1), "pass 0")
	x.Record(20, sale("c", 1), 5)
	judge(t, x, 20, sale("c", 1), "pass 1 many")
	judge(t, x, 109, sale("z", 1), "pass 1 many")
	judge(t, x, 110, sale("z", 1), "pass 0")
	if x.Undo(20, sale("c", 1), 5) != api.OK || x.Undo(20, sale("c", 1), 5) != api.ErrNone {
		t.Error("Undo")
	}
	judge(t, x, 20, sale("c", 1), "pass 0")
	// An Undo that finds one key only changes nothing.
	x.Record(30, sale("c", 1), 6)
	if x.Undo(30, []api.Feature{{Name: "card", Kind: api.TText, Text: "c"}, {Name: "merchant", Kind: api.TText, Text: "n"}}, 6) != api.ErrNone {
		t.Error("Undo of another merchant")
	}
	judge(t, x, 30, sale("c", 1), "pass 1 many")
}

func TestRoom(t *testing.T) {
	x := engine(t, "rule many when 1001 <= count(card, 60) + count(merchant, 60): pass score 1;", 50, 100)
	if !slices.Equal(x.Tracked(), []string{"card", "merchant"}) {
		t.Error(x.Tracked())
	}
	for i := range 500 {
		if e := x.Record(i/400, sale("c", 1), 1); e != api.OK {
			t.Fatal(i, e)
		}
	}
	if x.Record(59, sale("c", 1), 1) != api.ErrFull || x.Record(59, nil, 1) != api.OK || x.Record(60, sale("c", 1), 1) != api.OK {
		t.Error("room")
	}
	// Nothing was forgotten by the calls with errors; the last one has forgotten the first 400.
	if x.Undo(0, sale("c", 1), 1) != api.ErrNone || x.Undo(1, sale("c", 1), 1) != api.OK {
		t.Error("what is remembered")
	}
	var none *fraud.Engine
	if v, e := none.Judge(0, nil); v.Fired != nil || e != api.ErrNone || none.Record(0, nil, 0) != e || none.Undo(0, nil, 0) != e || len(none.Tracked()) != 0 {
		t.Error("nil engine")
	}
	new(fraud.Engine).Record(0, sale("c", 1), 1)
}

func TestExplainFeatures(t *testing.T) {
	for s, v := range map[string]api.Verdict{"pass 0": {}, "decline -5 a b": {Action: 2, Score: -5, Fired: []string{"a", "b"}}, "refer 7": {Action: 1, Score: 7}} {
		if fraud.Explain(v) != s {
			t.Error(fraud.Explain(v))
		}
	}
	if fraud.Explain(api.Verdict{Action: 3}) != "" || fraud.Explain(api.Verdict{Action: -1}) != "" {
		t.Error("another action")
	}
	el := func(n int, s string) api.Element { return api.Element{Number: n, Value: s} }
	l := fraud.Features(api.Message{Elements: []api.Element{el(2, "c"), el(4, "000000001000"), el(7, "x"), el(18, "5411"), el(32, "acq"), el(41, "t1"), el(42, "m1"), el(49, "EUR"), el(52, "")}})
	s := ""
	for _, f := range l {
		s += f.Name + ":" + strconv.Itoa(f.Kind) + ":" + f.Text + strconv.FormatInt(f.N, 10) + " "
	}
	if s != "card:2:c0 merchant:2:m10 acquirer:2:acq0 currency:2:EUR0 terminal:2:t10 amount:1:1000 category:1:5411 sent:1:0 token:3:1 " {
		t.Error(s)
	}
	if l := fraud.Features(api.Message{}); len(l) != 9 || l[8].N != 0 || l[0].Text != "" {
		t.Error(l)
	}
}

func TestBounds(t *testing.T) {
	l := rules(t, "rule a when 1 = 1: pass score 1000;")
	x, e := fraud.New(l, 1000, 1000000)
	if e != api.OK {
		t.Fatal(e)
	}
	judge(t, x, 0, nil, "refer 1000 a")
	judge(t, x, api.MaxTime, nil, "refer 1000 a")
	x = engine(t, "rule a when 1 <= sum(merchant, 5): pass; rule b when 1 <= count(acquirer, 5) + count(card, 5): pass; rule c when 1 <= count(merchant, 7): pass;", 5, 6)
	if !slices.Equal(x.Tracked(), []string{"acquirer", "card", "merchant"}) {
		t.Error(x.Tracked())
	}
	names := x.Tracked()
	names[0] = "changed"
	if x.Tracked()[0] != "acquirer" {
		t.Error("shared memory")
	}
	if x.Record(api.MaxTime, sale("c", 1), api.MaxAmount) != api.OK || x.Undo(api.MaxTime, sale("c", 1), api.MaxAmount) != api.OK {
		t.Error("the greatest numbers")
	}
	// A condition that is a number for the given features does not hold.
	x = engine(t, "rule a when token: pass;", 5, 6)
	judge(t, x, 0, []api.Feature{{Name: "token", Kind: api.TBool, N: 1}}, "pass 0 a")
	judge(t, x, 0, []api.Feature{{Name: "token", Kind: api.TNumber, N: 1}}, "pass 0")
	judge(t, x, 0, []api.Feature{{Name: "token", Kind: api.TBool}}, "pass 0")
	// Without counts the horizon is 1: what was recorded a second ago is forgotten by the next use.
	x = engine(t, "rule a when 1 <= count(card, 1): pass;", 5, 6)
	x.Record(5, sale("c", 1), 1)
	judge(t, x, 5, sale("c", 1), "pass 0 a")
	judge(t, x, 6, sale("c", 1), "pass 0")
}

func TestExactRoom(t *testing.T) {
	x := engine(t, "rule a when 1 <= count(card, 1): pass;", 5, 6)
	for i := range 1000 {
		if e := x.Record(5, sale("c", 1), 1); e != api.OK {
			t.Fatal(i, e)
		}
	}
	if x.Record(5, sale("c", 1), 1) != api.ErrFull || x.Record(5, nil, 1) != api.OK {
		t.Error("a thousand uses")
	}
	// A second later all of them are too old.
	if e := x.Record(6, sale("c", 1), 1); e != api.OK {
		t.Error(e)
	}
	none := engine(t, "rule a when 1 = 1: pass;", 5, 6)
	for range 1001 {
		if e := none.Record(5, sale("c", 1), 1); e != api.OK {
			t.Fatal(e)
		}
	}
}
