package console_test

import (
	"cardnet/console"
	"strings"
	"testing"
)

// check runs a script, and compares the outputs of its lines, which are separated by bars.
func check(t *testing.T, script, want string) {
	t.Helper()
	if got := console.Run(script); strings.ReplaceAll(got, "\n", "|") != want {
		t.Errorf("%q\ngot  %q\nwant %q", script, strings.ReplaceAll(got, "\n", "|"), want)
	}
}

func TestFunctions(t *testing.T) {
	for script, want := range map[string]string{
		"pan 400000 0 16":                 "4000000000000002|",
		"pan 400000 -1 16":                "error 4|",
		"check 4000000000000002":          "ok|",
		"check 4000000000000003":          "error 9|",
		"convert 10.00 EUR EUR/USD 11/10": "11.00 USD|",
		"convert 10.0 EUR EUR/USD x":      "error 2|",
		"convert 10.00 EUR EUR/EUR 0/1":   "error 11|",
		"convert 10.00 USD EUR/USD 11/10": "error 11|",
		"convert 0.05 EUR EUR/USD 1/2":    "0.02 USD|",
		"split 1.00 EUR 1 1 1":            "0.34 EUR|0.33 EUR|0.33 EUR|",
		"split 1.00 EUR 0":                "error 4|",
		"split 1.0 EUR 0":                 "error 2|",
		"split 1.00 EUR":                  "error 30|",
		"split 1.00 EUR 1 x":              "error 30|",
		"business 2026-11-16 5":           "2026-11-23|",
		"business 2026-11-1 5":            "error 1|",
		"business 2026-11-16 1001":        "error 4|",
		"ranges 400000-400099 bankone gold; 400100-400199 bankone gold;": "400000-400199 bankone gold;|",
		"ranges 6-6 a b; 4-4 a b;":                                       "4-4 a b;|6-6 a b;|",
		"ranges 5-4 a b;":                                                "error 4 0|",
		"ranges 5-6 a":                                                   "error 2 5|",
		"ranges #":                                                       "",
		"rules rule a":                                                   "error 2 6|",
		"rules rule a when (b): pass; rule c when 1=1: refer score 5; # x": "rule a when b: pass;|rule c when 1 = 1: refer score 5;|",
		"rules #":                            "",
		"fees fee a when 1 = 1: 1.05% + 3;":  "fee a when 1 = 1: 1.05% + 3;|",
		"fees fee a when 1 = 1: 1.50%;":      "error 2 18|",
		"fly":                                "error 30|",
		"total":                              "error 6|",
		"buy 0 0 0 x m1":                     "error 30|",
		"buy 0 0 0 1 m1":                     "error 6|",
		"network 0 1 1":                      "error 4|",
		"network 5 1 1":                      "error 4|",
		"network 1 0 1":                      "error 4|",
		"network 1 5 1":                      "error 4|",
		"network 1 1 -1":                     "error 4|",
		"network 1 1 1000000000000":          "error 4|",
		"network 4 4 1\ntotal":               "ok|8|",
		"network -1 1 1":                     "error 4|",
		"network 1 -1 1":                     "error 4|",
		"network 1 1 999999999999\ntotal":    "ok|1999999999998|",
		"network 1 1 1099511627777":          "error 30|",
		"network 1 1 1 ":                     "error 30|",
		" network 1 1 1":                     "error 30|",
		"network 1  1 1":                     "error 30|",
		"network 1\t1 1":                     "error 30|",
		"network 1 1":                        "error 30|",
		"network 01 1 1":                     "error 30|",
		"network 1 1 1 1":                    "error 30|",
		"total 1":                            "error 30|",
		"rules":                              "error 30|",
		"Pan 400000 0 16":                    "error 30|",
		"pan 400000 0 16\r\n":                "error 30|",
		"check " + strings.Repeat("1", 3995): "error 3|",
		"check " + strings.Repeat("1", 3994): "error 3|",
		"fly " + strings.Repeat("1", 3996):   "error 30|",
		"fly " + strings.Repeat("1", 3997):   "error 3|",
		strings.Repeat("\n", 65536):          "",
		strings.Repeat("\n", 65537):          "error 3|",
		"\n\npan 400000 0 16\n\nfly":         "4000000000000002|error 30|",
	} {
		check(t, script, want)
	}
}

func TestNetwork(t *testing.T) {
	begin := "network 1 1 10000\nbuy 0 0 0 1000 m1\nwait 10\nsale 0\nholder 0 0\n"
	check(t, begin, "ok|0 000000000001|ok 10|approved 1000 0 0|10000 1000|")
	more := begin + "capture 0 1000\nclear\nholder 0 0\nshop m1\ntotal\nsettle 0\nrefund 0 400\nclear\nholder 0 0\nshop m1\naudit\nbalance network\nquiet\n"
	check(t, more, "ok|0 000000000001|ok 10|approved 1000 0 0|10000 1000|ok|ok 0|9000 0|983|20000|bank0 acq0 9.97 EUR|bank0 network 0.01 EUR|ok 2|ok|ok 0|9400 0|593|clean|1|yes|")
	if !strings.HasPrefix(console.Run(more), console.Run(begin)) {
		t.Error("P53.3")
	}
	check(t, "network 1 1 100\nbuy 0 0 0 500 m1\nwait 10\nsale 0", "ok|0 000000000001|ok 10|declined 0 0 0|")
	check(t, "network 1 1 1000\nbuy 0 0 0 400 m1\nsale 0\nquiet\nwait 10\ncancel 0\nwait 10\nholder 0 0\nsale 0\ncancel 0", "ok|0 000000000001|waiting 0 0 0|no|ok 10|ok|ok 20|1000 0|reversed 0 0 0|error 8|")
	check(t, "network 2 2 1000\nbuy 1 1 1 40 m1\nbuy 0 0 1 50 m-2\nbuy 0 1 0 60 m1\nwait 10\nsale 2\nholder 1 1\nholder 0 1\nholder 1 0\nbuy 1 0 0 7 m", "ok|0 000001000001|0 000000000001|1 000000000002|ok 10|approved 40 0 0|1000 40|1000 50|1000 60|3 000001000002|")
	check(t, "network 1 1 1000\nbuy 1 0 0 5 m\nbuy 0 1 0 5 m\nbuy 0 0 2 5 m\nbuy 0 0 -1 5 m\nbuy 0 -1 9 5 m\nbuy 0 0 0 0 m\nbuy 0 0 0 5 a.b\nsale 0\nsale -1\nholder 0 2\nholder 1 0\ncancel 0\ncapture 0 5\nrefund 0 5\nwait -1\nwait 8640001\nsettle 99\nsettle 2\nshop x\nbalance x", "ok|error 6|error 6|error 6|error 6|error 6|error 4|error 5|error 6|error 6|error 6|error 6|error 6|error 6|error 6|error 14|error 14|error 14|error 14|0|0|")
	check(t, "network 1 1 1000\nbuy 0 0 0 100 m\nwait 5\ncapture 0 0\nwait 604800\nclear\nsale 0\naudit\nnetwork 1 1 5\ntotal\nsale 0", "ok|0 000000000001|ok 5|ok|ok 604805|reject 000000000001-1 8|ok 1|approved 100 100 0|clean|ok|10|error 6|")
}

func TestConsole(t *testing.T) {
	c := console.New()
	if c.Do("") != "error 30\n" || c.Do("network 1 1 5") != "ok\n" || c.Do("network 1 9 5") != "error 4\n" || c.Do("total") != "10\n" || c.Do("total\n") != "error 30\n" {
		t.Error("Do")
	}
	var none *console.Console
	new(console.Console).Do("total")
	if none.Do("total") != "" {
		t.Error("nil console")
	}
}

func TestLines(t *testing.T) {
	for script, want := range map[string]string{
		"rules rule a when b: pass;":                   "rule a when b: pass;|",
		"rules rule a when b: pass; ":                  "error 30|",
		"rules rule a when b:  pass;":                  "error 30|",
		" rules rule a when b: pass;":                  "error 30|",
		"rules rule a when b:\tpass;":                  "error 30|",
		"rules rule a when b: pass;#\x1f":              "error 30|",
		"rules rule a when b: pass;#\x7f\xff":          "rule a when b: pass;|",
		"network 1 1 1\nshop a\x01b":                   "ok|error 30|",
		"network 1 1 1\nshop a\x7fb":                   "ok|0|",
		"network 1 1 1\nshop  a":                       "ok|error 30|",
		"pan 400000 1099511627776 16":                  "error 4|",
		"pan 400000 1099511627777 16":                  "error 30|",
		"pan 400000 -1099511627776 16":                 "error 4|",
		"pan 400000 -1099511627777 16":                 "error 30|",
		"business 1970-01-01 0\nbusiness 1970-01-03 0": "1970-01-01|1970-01-05|",
	} {
		check(t, script, want)
	}
}

// TestStandardNetwork observes the numbers of the standard network that a script can observe.
func TestStandardNetwork(t *testing.T) {
	begin := "network 1 1 5000000\n"
	check(t, begin+"buy 0 0 0 1000001 m\nbuy 0 0 0 999999 m\nbuy 0 0 0 1 m\nbuy 0 0 0 1 m\nbuy 0 0 1 1000000 m\nwait 9\nsale 0\nsale 1\nsale 2\nsale 3\nsale 4", "ok|0 000000000001|1 000000000002|2 000000000003|3 000000000004|4 000000000005|ok 9|declined 0 0 0|approved 999999 0 0|approved 1 0 0|declined 0 0 0|approved 1000000 0 0|")
	check(t, begin+"buy 0 0 0 1000 m\nbuy 0 0 0 1000 m\nwait 9\ncapture 0 1151\ncapture 1 1150\nclear\nholder 0 0", "ok|0 000000000001|1 000000000002|ok 9|ok|ok|reject 000000000001-1 22|ok 1|4998850 1000|")
	check(t, begin+"buy 0 0 0 1000 m\nwait 604801\nholder 0 0\nwait 1\nholder 0 0", "ok|0 000000000001|ok 604801|5000000 1000|ok 604802|5000000 0|")
	check(t, begin+"buy 0 0 0 1000 m\nwait 3\nsale 0\nwait 1\nsale 0", "ok|0 000000000001|ok 3|waiting 0 0 0|ok 4|approved 1000 0 0|")
	for wait, date := range map[string]string{"64799": "0", "64800": "1"} {
		check(t, begin+"buy 0 0 0 100000 m\nwait "+wait+"\ncapture 0 100000\nclear\nsettle "+date, "ok|0 000000000001|ok "+wait+"|ok|ok 0|bank0 acq0 997.50 EUR|bank0 network 0.50 EUR|ok 2|")
	}
	check(t, begin+"buy 0 0 0 100000 m\nwait 9\ncapture 0 100000\nclear\nshop m\nbalance bank:bank0\nbalance network\nbalance acq:acq0\nbalance shops:acq0\nbalance holder:bank0", "ok|0 000000000001|ok 9|ok|ok 0|98795|200|50|955|98795|-100000|")
}
