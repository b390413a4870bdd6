package epoch

import (
	"fmt"
	"math"
	"slices"
	"strings"
	"testing"

	"polliwog/event"
	"polliwog/link"
	"polliwog/pdu"
)

func asked(end, kind int, data string) link.Record {
	return link.Record{End: end, Kind: link.Asked, Request: event.Request{Kind: kind, Data: data}}
}

func told(end, kind int, data string) link.Record {
	return link.Record{End: end, Kind: link.Told, Signal: event.Signal{Kind: kind, Data: data}}
}

// text is epochs as a text: of each its messages of both ways.
func text(l []Epoch) string {
	s := ""
	for _, e := range l {
		s += fmt.Sprintf("%q %q; ", e.Sent, e.Got)
	}
	return s
}

// want asks for the epochs of both ends.
func want(t *testing.T, b *Book, all [2][]Epoch) {
	t.Helper()
	for end, l := range all {
		if got := b.Epochs(end); text(got) != text(l) {
			t.Errorf("P20.1: end %d: %s, not %s", end, text(got), text(l))
		}
	}
}

// P20.1: the chapter's example.
func TestExample(t *testing.T) {
	var b Book
	b.Add(asked(0, event.Accept, ""), asked(0, event.Data, "a"))
	want(t, &b, [2][]Epoch{{{Sent: []string{"a"}}}, nil})
	if !b.Sound() {
		t.Errorf("P20.1: not sound")
	}
}

// P20.1: a zero Book has none, and is sound; records that say nothing don't change that.
func TestZero(t *testing.T) {
	var b Book
	for range 2 {
		for _, end := range ends() {
			if l := b.Epochs(end); l != nil {
				t.Errorf("P20.1: end %d: %s", end, text(l))
			}
		}
		if !b.Sound() {
			t.Errorf("P20.1: a zero Book isn't sound")
		}
		b.Add()
		b.Add(nil...)
		b.Add(link.Record{}, asked(0, event.Data, "a"), told(1, event.DataInd, "a"))
	}
}

// ends has numbers of ends, and of none.
func ends() []int {
	return []int{math.MinInt, -1 << 32, -2, -1, 0, 1, 2, 3, 1 << 32, 1<<32 + 1, math.MaxInt}
}

// P20.1: which records begin an epoch, or put a message, of all kinds of records, signals and requests; each has all that a record may have.
func TestEachRecord(t *testing.T) {
	for end := range 2 {
		for kind := -1; kind < 9; kind++ {
			for signal := -1; signal < 15; signal++ {
				for request := -1; request < 15; request++ {
					r := link.Record{
						End: end, Kind: kind, Unit: pdu.PDU{Kind: pdu.SD, Data: "unit"},
						Signal: event.Signal{Kind: signal, Data: "got"}, Request: event.Request{Kind: request, Data: "sent"},
					}
					var b Book
					all := [2][]Epoch{}
					b.Add(r)
					begins := kind == 5 && (signal == 2 || signal == 6) || kind == 6 && (request == 2 || request == 5 || request == 6)
					if begins {
						all[end] = append(all[end], Epoch{})
					}
					want(t, &b, all)

					b.Add(told(end, event.EstablishConf, ""), r)
					all[end] = append(all[end], Epoch{})
					last := &all[end][len(all[end])-1]
					switch {
					case begins:
						all[end] = append(all[end], Epoch{})
					case kind == 6 && request == 7:
						last.Sent = []string{"sent"}
					case kind == 5 && signal == 8:
						last.Got = []string{"got"}
					}
					want(t, &b, all)
				}
			}
		}
	}
}

// P20.1: messages go to the last epoch of their end, behind those that are there; an epoch may be empty.
func TestAdd(t *testing.T) {
	var b Book
	b.Add(
		asked(0, event.Data, "early"), told(0, event.DataInd, "early"), told(0, event.EstablishConf, ""),
		asked(0, event.Data, "a"), told(1, event.DataInd, "early"), asked(0, event.Data, "a"), told(0, event.DataInd, "x"), asked(0, event.Data, ""),
	)
	want(t, &b, [2][]Epoch{{{[]string{"a", "a", ""}, []string{"x"}}}, nil})
	b.Add(asked(1, event.Accept, ""), told(1, event.DataInd, "a"))
	b.Add(asked(0, event.Recovered, ""))
	b.Add(told(0, event.ResyncConf, ""), asked(0, event.Data, "b"), told(1, event.DataInd, ""), asked(1, event.Resynced, ""), told(1, event.DataInd, "b"))
	want(t, &b, [2][]Epoch{
		{{[]string{"a", "a", ""}, []string{"x"}}, {}, {Sent: []string{"b"}}},
		{{Got: []string{"a", ""}}, {Got: []string{"b"}}},
	})
	// An end that was left keeps its last epoch.
	b.Add(asked(1, event.Release, "r"), told(1, event.ReleaseConf, ""), told(1, event.Retrieved, "z"), asked(1, event.Data, "c"))
	if l := b.Epochs(1); text(l[1:]) != text([]Epoch{{[]string{"c"}, []string{"b"}}}) {
		t.Errorf("P20.1: %s", text(l))
	}
}

// P20.1: of another end than 0 and 1 nothing.
func TestOtherEnds(t *testing.T) {
	var b Book
	b.Add(asked(0, event.Accept, ""), asked(1, event.Accept, ""))
	for _, end := range ends() {
		if end == 0 || end == 1 {
			continue
		}
		b.Add(asked(end, event.Accept, ""), asked(end, event.Data, "a"), told(end, event.DataInd, "a"), told(end, event.ResyncConf, ""))
		if l := b.Epochs(end); l != nil {
			t.Errorf("P20.1: end %d: %s", end, text(l))
		}
	}
	want(t, &b, [2][]Epoch{{{}}, {{}}})
}

// P20.1: Prefix of lists that are alike, shorter, longer, and unlike at one place.
func TestPrefix(t *testing.T) {
	for _, x := range []struct {
		sent, got string
		want      bool
	}{
		{"", "", true}, {"a", "", true}, {"", "a", false}, {"a", "a", true}, {"a", "b", false}, {"a", "A", false}, {"a", "a a", false},
		{"a b", "a", true}, {"a b", "b", false}, {"a b", "a b", true}, {"a b", "b a", false}, {"a b c", "a c", false}, {"a b c", "a b", true},
		{"a b c", "b c", false}, {"a a b", "a a", true}, {"a b", "a b c", false}, {"ab c", "a", false}, {"ab c", "a bc", false},
	} {
		if got := Prefix(strings.Fields(x.sent), strings.Fields(x.got)); got != x.want {
			t.Errorf("P20.1: Prefix of %q, %q: %t", x.sent, x.got, got)
		}
	}
	if !Prefix(nil, nil) || !Prefix([]string{"a"}, nil) || !Prefix(nil, []string{}) || Prefix(nil, []string{""}) || !Prefix([]string{"", "a"}, []string{""}) {
		t.Errorf("P20.1: Prefix of none")
	}
}

// sends makes epochs whose Sent are these, with blanks between messages; Got is something else.
func sends(l ...string) []Epoch {
	var all []Epoch
	for _, s := range l {
		all = append(all, Epoch{Sent: strings.Fields(s), Got: []string{"other"}})
	}
	return all
}

// gets makes epochs whose Got are these.
func gets(l ...string) []Epoch {
	var all []Epoch
	for _, s := range l {
		all = append(all, Epoch{Sent: []string{"other"}, Got: strings.Fields(s)})
	}
	return all
}

// P20.1: Match: places rise, the first one that may be is taken, epochs that got nothing are passed over.
func TestMatch(t *testing.T) {
	for _, x := range []struct {
		sent, got []Epoch
		want      []int
		ok        bool
	}{
		{nil, nil, nil, true},
		{sends("a"), nil, nil, true},
		{nil, gets(""), nil, true},
		{sends("a"), gets("", ""), nil, true},
		{nil, gets("a"), nil, false},
		{nil, gets("", "a"), nil, false},
		{sends("a"), gets("a"), []int{0}, true},
		{sends("a b"), gets("a"), []int{0}, true},
		{sends("a"), gets("a b"), nil, false},
		{sends("b", "a", "a"), gets("a"), []int{1}, true},
		{sends("a", "a"), gets("a", "a"), []int{0, 1}, true},
		{sends("a"), gets("a", "a"), nil, false},
		{sends("a b"), gets("a", "b"), nil, false},
		{sends("a", "b"), gets("b", "a"), nil, false},
		{sends("a", "b", "a"), gets("b", "a"), []int{1, 2}, true},
		{sends("x", "a", "", "b", "c"), gets("", "a", "", "c", ""), []int{1, 4}, true},
		{sends("a b", "a", "a b c"), gets("a", "a b"), []int{0, 2}, true},
		{sends("a", "a b", "b"), gets("a b", "a"), nil, false},
		{sends("a", "a", "b"), gets("a", "b", "a"), nil, false},
		{[]Epoch{{Sent: []string{"", "a"}}}, []Epoch{{Got: []string{""}}}, []int{0}, true},
		{[]Epoch{{}, {Sent: []string{""}}}, []Epoch{{Got: []string{}}, {Got: []string{""}}}, []int{1}, true},
	} {
		got, ok := Match(x.sent, x.got)
		if ok != x.ok || !slices.Equal(got, x.want) || !ok && got != nil {
			t.Errorf("P20.1: Match of %s and %s: %v, %t, not %v, %t", text(x.sent), text(x.got), got, ok, x.want, x.ok)
		}
	}
}

// P20.1: a Book is sound, if both ends match: each one's Got with the other's Sent, not with its own.
func TestSound(t *testing.T) {
	for end := range 2 {
		for _, x := range []struct {
			l    []link.Record
			want bool
		}{
			{[]link.Record{asked(end, event.Data, "a")}, true},
			{[]link.Record{told(end, event.DataInd, "a")}, false},
			{[]link.Record{asked(end, event.Data, "a"), told(end, event.DataInd, "a")}, false},
			{[]link.Record{asked(1-end, event.Data, "a"), told(end, event.DataInd, "a")}, true},
			{[]link.Record{told(end, event.DataInd, "a"), asked(1-end, event.Data, "a")}, true},
			{[]link.Record{asked(1-end, event.Data, "a"), told(end, event.DataInd, "a"), told(end, event.DataInd, "a")}, false},
			{[]link.Record{asked(1-end, event.Data, "a"), asked(1-end, event.Data, "b"), told(end, event.DataInd, "a")}, true},
			{[]link.Record{asked(1-end, event.Data, "a"), asked(1-end, event.Data, "b"), told(end, event.DataInd, "b")}, false},
			{[]link.Record{asked(1-end, event.Data, "a"), asked(1-end, event.Data, "b"), told(end, event.DataInd, "b"), told(end, event.DataInd, "a")}, false},
			{[]link.Record{asked(1-end, event.Data, "a"), told(end, event.DataInd, "A")}, false},
			{[]link.Record{asked(1-end, event.Data, "a"), asked(1-end, event.Resynced, ""), told(end, event.DataInd, "a")}, true},
			{[]link.Record{asked(1-end, event.Data, "a"), told(end, event.DataInd, "a"), asked(end, event.Resynced, ""), told(end, event.DataInd, "a")}, false},
			{[]link.Record{
				asked(1-end, event.Data, "a"), asked(end, event.Data, "b"), told(end, event.DataInd, "a"), told(1-end, event.DataInd, "b"),
				asked(end, event.Resynced, ""), told(1-end, event.ResyncConf, ""), asked(1-end, event.Data, "c"), told(end, event.DataInd, "c"),
			}, true},
		} {
			var b Book
			b.Add(told(0, event.EstablishConf, ""), asked(1, event.Accept, ""))
			b.Add(x.l...)
			if b.Sound() != x.want {
				t.Errorf("P20.1: Sound: %t: %s| %s", !x.want, text(b.Epochs(0)), text(b.Epochs(1)))
			}
		}
	}
}

// Rule 5: what is answered is new memory, and what is handed in is neither changed nor kept.
func TestNewMemory(t *testing.T) {
	var b Book
	records := []link.Record{told(0, event.EstablishConf, ""), asked(0, event.Data, "a"), asked(0, event.Data, "b"), told(0, event.DataInd, "c"), asked(1, event.Data, "spare")}
	b.Add(records[:4]...)
	if records[4].Request.Data != "spare" || records[1].Request.Data != "a" {
		t.Errorf("rule 5: %+v", records)
	}
	clear(records)
	all := [2][]Epoch{{{[]string{"a", "b"}, []string{"c"}}}, nil}
	want(t, &b, all)
	p, q := b.Epochs(0), b.Epochs(0)
	clear(p[0].Sent)
	clear(p[0].Got)
	_ = append(p[0].Sent, "d")
	_ = append(p[:1], Epoch{Sent: []string{"d"}})
	p[0] = Epoch{}
	want(t, &b, all)
	b.Add(asked(0, event.Data, "e"), asked(0, event.Resynced, ""))
	if text(q) != text(all[0]) {
		t.Errorf("rule 5: %s", text(q))
	}
	sent, got := sends("a", "b c", "d"), gets("b", "d")
	places, _ := Match(sent, got)
	clear(places)
	if again, ok := Match(sent, got); !ok || !slices.Equal(again, []int{1, 2}) || text(sent) != text(sends("a", "b c", "d")) || text(got) != text(gets("b", "d")) {
		t.Errorf("rule 5: %v, %t, %s, %s", again, ok, text(sent), text(got))
	}
}

// P1: each call ends, of long lists.
func TestCallsEnd(t *testing.T) {
	const n = 1 << 17
	var b Book
	b.Add(slices.Repeat([]link.Record{told(0, event.EstablishConf, ""), asked(0, event.Data, "a"), asked(1, event.Accept, ""), told(1, event.DataInd, "a")}, n)...)
	if !b.Sound() || len(b.Epochs(0)) != n || len(b.Epochs(1)) != n {
		t.Errorf("P1: %d, %d epochs", len(b.Epochs(0)), len(b.Epochs(1)))
	}
	b.Add(told(1, event.ResyncConf, ""), told(1, event.DataInd, "a"))
	if b.Sound() {
		t.Errorf("P1: one more than was sent is sound")
	}
	b = Book{}
	b.Add(told(0, event.EstablishConf, ""), asked(1, event.Accept, ""))
	b.Add(slices.Repeat([]link.Record{asked(0, event.Data, ""), told(1, event.DataInd, "")}, n)...)
	if !b.Sound() || len(b.Epochs(1)[0].Got) != n {
		t.Errorf("P1: %d messages", len(b.Epochs(1)[0].Got))
	}
}
