package message_test

import (
	"math/rand"
	"strings"
	"testing"

	"cardnet/api"
	"cardnet/element"
	"cardnet/message"
)

// randomMessage returns a valid message of a type without required elements.
func randomMessage(r *rand.Rand) api.Message {
	m := api.Message{Type: []int{1, 20, 200, 9999, 8020}[r.Intn(5)]}
	for _, n := range element.All() {
		if r.Intn(2) == 0 {
			continue
		}
		x, _ := element.Find(n)
		length := x.Length
		if x.Var > 0 || n == 41 {
			length = 1 + r.Intn(x.Length)
		}
		alphabet := map[int]string{1: "0123456789", 2: "aZ~!|\"", 3: "0123456789abcdef"}[x.Kind]
		var value strings.Builder
		for range length {
			value.WriteByte(alphabet[r.Intn(len(alphabet))])
		}
		m.Elements = append(m.Elements, api.Element{Number: n, Value: value.String()})
	}
	return m
}

func TestRoundTrip(t *testing.T) {
	r := rand.New(rand.NewSource(1))
	for range 3000 {
		m := randomMessage(r)
		s, e := message.Encode(m)
		if e != api.OK {
			t.Fatal(m, e)
		}
		if x, e := message.Decode(s); !message.Same(x, m) || e != api.OK {
			t.Fatal(m, x, e)
		}
		if reply, e := message.Reply(m, "05"); e == api.OK && !message.Answers(m, reply) {
			t.Fatal(m, reply)
		}
		// What is accepted after a change is the encoding of its result.
		b := []byte(s)
		b[r.Intn(len(b))] = "0123456789abcdefxyz ~\x00"[r.Intn(22)]
		if x, e := message.Decode(string(b)); e == api.OK {
			if again, _ := message.Encode(x); again != string(b) {
				t.Fatal(string(b), again)
			}
		}
	}
}
