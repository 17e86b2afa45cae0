package intake_test

import (
	"slices"
	"strconv"
	"strings"
	"testing"

	"cardnet/api"
	"cardnet/batch"
	"cardnet/checksum"
	"cardnet/intake"
)

func rec(id string, amount int64) api.Record {
	return api.Record{Kind: 1, Id: id, Acquirer: "shop", Issuer: "home", Merchant: "m", Card: "4000000000000077", Amount: api.Money{Amount: amount, Currency: "EUR"}}
}

// file returns the text of a file; the card of a record whose Id ends with ! gets a wrong check digit.
func file(t *testing.T, id string, date int, l ...api.Record) string {
	t.Helper()
	b := api.Batch{Id: id, Sender: "shop", Date: date}
	bad := map[string]bool{}
	for i, r := range l {
		if name, wrong := strings.CutSuffix(r.Id, "!"); wrong {
			r.Id = "bad" + strconv.Itoa(i)
			bad[r.Id+"="+name] = true
		}
		b.Records = append(b.Records, r)
	}
	s, e := batch.Encode(b)
	if e != api.OK {
		t.Fatal(e)
	}
	lines := strings.SplitAfter(s, "\n")
	for key := range bad {
		from, to, _ := strings.Cut(key, "=")
		for i, line := range lines {
			if strings.Contains(line, "|"+from+"|") {
				lines[i] = strings.Replace(strings.Replace(line, "|"+from+"|", "|"+to+"|", 1), "0077|", "0087|", 1)
			}
		}
	}
	n := len(lines) - 3
	body := strings.Join(lines[:n], "")
	p := strings.Split(strings.TrimSpace(lines[n]), "|")
	hash, _ := strconv.Atoi(p[4])
	p[4] = strconv.Itoa(hash + 10*len(bad))
	body += strings.Join(p, "|") + "\n"
	crc := strconv.FormatUint(uint64(checksum.Crc(body))|1<<32, 16)[1:]
	return body + "C|" + crc + "\n"
}

func start(t *testing.T) *intake.Intake {
	x, e := intake.New([]string{"shop", "other"})
	if e != api.OK {
		t.Fatal(e)
	}
	return x
}

func ids(l []api.Record) string {
	s := ""
	for _, r := range l {
		s += r.Id + " "
	}
	return s
}

func TestNew(t *testing.T) {
	for i, c := range []struct {
		l    []string
		want api.Errno
	}{{nil, 0}, {make([]string, 17), api.ErrLong}, {[]string{"a", "a", ""}, api.ErrExists}, {[]string{"a-b"}, api.ErrName}} {
		if x, e := intake.New(c.l); e != c.want || (x == nil) != (e != api.OK) {
			t.Error(i, e)
		}
	}
}

func accept(t *testing.T, x *intake.Intake, text, want string, rejects ...api.Reject) {
	t.Helper()
	l, r, e := x.Accept(30, text)
	if ids(l) != want || !slices.Equal(r, rejects) || e != api.OK {
		t.Error(ids(l), r, e)
	}
}

func TestAccept(t *testing.T) {
	x := start(t)
	r2 := api.Reject{Index: 1, Id: "r2", Code: api.ErrCard}
	accept(t, x, file(t, "F20-1", 20, rec("r1", 5), rec("r2!", 7)), "r1 ", r2)
	if !slices.Equal(x.Open("shop"), []api.Reject{r2}) || !x.Seen("shop", "r1") || x.Seen("shop", "r2") || x.Seen("other", "r1") || len(x.Open("other")) != 0 || len(x.Open("none")) != 0 {
		t.Error(x.Open("shop"))
	}
	if x.Totals("shop") != (batch.Totals{Count: 1, Debit: 5, Hash: 77}) || x.Totals("none") != (batch.Totals{}) {
		t.Error(x.Totals("shop"))
	}
	if l, r, e := x.Accept(30, file(t, "F20-1", 20, rec("r9", 5))); len(l) != 0 || len(r) != 0 || e != api.ErrDuplicate || x.Seen("shop", "r9") {
		t.Error(l, r, e)
	}
	r4, again := api.Reject{Index: 0, Id: "r4", Code: api.ErrCard}, api.Reject{Index: 1, Id: "r2", Code: api.ErrCard}
	accept(t, x, file(t, "F20-2", 20, rec("r4!", 5), rec("r2!", 7)), "", r4, again)
	if !slices.Equal(x.Open("shop"), []api.Reject{again, r4}) {
		t.Error(x.Open("shop"))
	}
	accept(t, x, file(t, "F21-2", 21, rec("r2", 7), rec("r1", 5), rec("r3", 1)), "r2 r3 ", api.Reject{Index: 1, Id: "r1", Code: api.ErrDuplicate})
	if !slices.Equal(x.Open("shop"), []api.Reject{r4}) || x.Totals("shop") != (batch.Totals{Count: 3, Debit: 13, Hash: 231}) {
		t.Error(x.Open("shop"), x.Totals("shop"))
	}
	// A reject of an Id that was accepted is not open; a reject and a record of one Id in a file neither.
	accept(t, x, file(t, "F22-4", 22, rec("r1!", 5), rec("r5!", 5), rec("r5", 5)), "r5 ", api.Reject{Index: 0, Id: "r1", Code: api.ErrCard}, api.Reject{Index: 1, Id: "r5", Code: api.ErrCard})
	if !slices.Equal(x.Open("shop"), []api.Reject{r4}) || !slices.Equal(x.Files(), []string{"F20-1", "F20-2", "F21-2", "F22-4"}) {
		t.Error(x.Open("shop"), x.Files())
	}
}

func TestErrors(t *testing.T) {
	x := start(t)
	foreign, _ := batch.Encode(api.Batch{Id: "F", Sender: "none", Date: 99})
	for i, c := range []struct {
		date int
		text string
		want api.Errno
	}{{-1, "", api.ErrTime}, {api.MaxDate + 1, "", api.ErrTime}, {5, "", api.ErrShort}, {5, foreign, api.ErrNone}, {5, file(t, "F", 6), api.ErrTime}, {6, file(t, "F", 6), 0}, {6, file(t, "F", 7), api.ErrTime}, {6, file(t, "F", 5), api.ErrDuplicate}} {
		if l, r, e := x.Accept(c.date, c.text); len(l) != 0 || len(r) != 0 || e != c.want {
			t.Error(i, l, r, e)
		}
	}
	for i := range 63 {
		if _, _, e := x.Accept(6, file(t, "G"+strconv.Itoa(i), 6)); e != api.OK {
			t.Fatal(e)
		}
	}
	if _, _, e := x.Accept(6, file(t, "H", 6)); e != api.ErrFull || len(x.Files()) != 64 {
		t.Error(e)
	}
	if _, _, e := x.Accept(6, file(t, "F", 6)); e != api.ErrDuplicate {
		t.Error(e)
	}
	var none *intake.Intake
	if _, _, e := none.Accept(6, ""); e != api.ErrNone || len(none.Files()) != 0 || none.Seen("a", "b") || len(none.Open("a")) != 0 || none.Totals("a") != (batch.Totals{}) {
		t.Error("nil intake")
	}
	new(intake.Intake).Accept(6, file(t, "F", 6, rec("a", 1)))
}

func TestOrder(t *testing.T) {
	x := start(t)
	accept(t, x, file(t, "F1", 20, rec("r1", 5)), "r1 ")
	// A repeated record stands before a wrong one.
	bad := api.Reject{Index: 1, Id: "r2", Code: api.ErrCard}
	accept(t, x, file(t, "F2", 20, rec("r1", 5), rec("r2!", 7), rec("r3", 9)), "r3 ", api.Reject{Index: 0, Id: "r1", Code: api.ErrDuplicate}, bad)
	later := api.Reject{Index: 0, Id: "r2", Code: api.ErrCard}
	accept(t, x, file(t, "F3", 20, rec("r2!", 7)), "", later)
	if l := x.Open("shop"); !slices.Equal(l, []api.Reject{later}) {
		t.Error(l)
	}
	l := x.Open("shop")
	l[0].Id = "changed"
	if x.Open("shop")[0].Id != "r2" {
		t.Error("shared memory")
	}
	refund := rec("r6", 11)
	refund.Kind = api.RcRefund
	accept(t, x, file(t, "F4", 20, refund, rec("r7", 1)), "r6 r7 ")
	if s := x.Totals("shop"); s != (batch.Totals{Count: 4, Debit: 15, Credit: 11, Hash: 4 * 77}) {
		t.Error(s)
	}
	refund.Id = "r8"
	accept(t, x, file(t, "F5", 20, refund), "r8 ")
	if s := x.Totals("shop"); s.Credit != 22 || s.Count != 5 {
		t.Error(s)
	}
}

func TestWithoutId(t *testing.T) {
	x := start(t)
	body := "H|F|shop|20\nR|junk\nT|1|0|0|0\n"
	text := body + "C|" + strconv.FormatUint(uint64(checksum.Crc(body))|1<<32, 16)[1:] + "\n"
	accept(t, x, text, "", api.Reject{Code: api.ErrFormat})
	if l := x.Open("shop"); len(l) != 0 {
		t.Error("a reject without an Id is not open", l)
	}
	var many []string
	for i := range 16 {
		many = append(many, "s"+strconv.Itoa(i))
	}
	if _, e := intake.New(many); e != api.OK {
		t.Error(e)
	}
	if _, _, e := x.Accept(api.MaxDate, file(t, "G", 20)); e != api.OK {
		t.Error(e)
	}
}
