package trace

import (
	"fmt"
	"math"
	"slices"
	"strings"
	"testing"

	"polliwog/api"
	"polliwog/event"
	"polliwog/link"
	"polliwog/node"
	"polliwog/pace"
	"polliwog/pdu"
	"polliwog/pipe"
	"polliwog/seq"
)

// P19.1: each kind of records, at each end, with lines that are written out.
func TestRecord(t *testing.T) {
	sd := pdu.PDU{Kind: pdu.SD, N: 5, Data: "ab"}
	for _, c := range []struct {
		r    link.Record
		want string
	}{
		{link.Record{Kind: link.Sent, Unit: sd}, "0 > sd n5 d6162"},
		{link.Record{End: 1, Kind: link.Sent, Unit: pdu.PDU{Kind: pdu.END, SQ: 1, Self: true}}, "1 > end sq1 self d-"},
		{link.Record{Kind: link.Came, Unit: pdu.PDU{Kind: pdu.STAT, PS: 1, MR: 1}}, "0 < stat n0 ps1 mr1 l-"},
		{link.Record{End: 1, Kind: link.Came, Unit: sd}, "1 < sd n5 d6162"},
		{link.Record{Kind: link.Garbled}, "0 #"},
		{link.Record{End: 1, Kind: link.Garbled}, "1 #"},
		{link.Record{Kind: link.Lost}, "0 x"},
		{link.Record{End: 1, Kind: link.Lost}, "1 x"},
		{link.Record{Kind: link.Told, Signal: event.Signal{Kind: event.EstablishInd, Data: "a"}}, "0 : establish 61"},
		{link.Record{End: 1, Kind: link.Told, Signal: event.Signal{Kind: event.ReleaseInd, Self: true}}, "1 : release self -"},
		{link.Record{Kind: link.Told, Signal: event.Signal{Kind: event.ResyncConf}}, "0 : resynced"},
		{link.Record{Kind: link.Told, Signal: event.Signal{Kind: event.Report, Code: 'V', N: 3}}, "0 : error V 3"},
		{link.Record{Kind: link.Told, Signal: event.Signal{Kind: event.Report, Code: '\n'}}, "0 : error \n"},
		{link.Record{Kind: link.Asked, Request: event.Request{Kind: event.Establish}}, "0 ? 1 -"},
		{link.Record{End: 1, Kind: link.Asked, Request: event.Request{Kind: event.Release, Data: "n"}}, "1 ? 3 6e"},
		{link.Record{Kind: link.Asked, Request: event.Request{Kind: event.Data, Data: "a\n"}}, "0 ? 7 610a"},
		{link.Record{Kind: link.Asked, Request: event.Request{Kind: event.Take, N: 64}}, "0 ? 10 64"},
		{link.Record{Kind: link.Asked, Request: event.Request{Kind: event.Retrieve}}, "0 ? 11 -"},
	} {
		line(t, c.r, c.want)
	}
}

// line asks for a record's line.
func line(t *testing.T, r link.Record, want string) {
	t.Helper()
	if got := Record(r); got != want {
		t.Errorf("P19.1: Record of %+v: %q, not %q", r, got, want)
	}
}

// P19.1: a record's kind says which of what it has is told.
func TestKindTells(t *testing.T) {
	full := link.Record{
		Unit:    pdu.PDU{Kind: pdu.UD, Data: "u"},
		Signal:  event.Signal{Kind: event.DataInd, Data: "d"},
		Request: event.Request{Kind: event.Manage, Data: "m", N: 7},
	}
	for kind, want := range map[int]string{
		link.Sent: "> ud d75", link.Came: "< ud d75", link.Garbled: "#", link.Lost: "x", link.Told: ": data 64", link.Asked: "? 9 6d",
	} {
		for _, end := range ints() {
			r := full
			r.End, r.Kind = end, kind
			line(t, r, fmt.Sprint(end)+" "+want)
		}
	}
	for _, kind := range append(ints(), 7, 8) {
		if link.Sent <= kind && kind <= link.Asked {
			continue
		}
		r := full
		r.Kind = kind
		line(t, r, "")
		line(t, link.Record{Kind: kind}, "")
		line(t, link.Record{End: 1, Kind: kind}, "")
	}
}

// ints has whole numbers, some of them no end's and no kind's.
func ints() []int {
	return []int{math.MinInt, -1 << 32, -2, -1, 0, 1, 2, 3, 4, 5, 6, 10, 255, 1 << 32, 1<<32 + 1, math.MaxInt}
}

// P19.1: units that may not be, signals and requests of other kinds: nothing stands behind the blank, but for a request's numbers and data.
func TestOddRecords(t *testing.T) {
	for _, u := range []pdu.PDU{{}, {Kind: 16}, {Kind: pdu.SD, SQ: 1}, {Kind: pdu.SD, N: greatest + 1}, {Kind: pdu.UD, Data: strings.Repeat("u", 201)}, {Kind: pdu.USTAT}} {
		line(t, link.Record{Kind: link.Sent, Unit: u}, "0 > ")
		line(t, link.Record{End: 1, Kind: link.Came, Unit: u}, "1 < ")
	}
	for _, kind := range ints() {
		if kind < event.EstablishInd || kind > event.Report {
			line(t, link.Record{Kind: link.Told, Signal: event.Signal{Kind: kind, Data: "a", Code: 'V'}}, "0 : ")
		}
		for _, n := range ints() {
			want := fmt.Sprintf("0 ? %d 6162", kind)
			if kind == event.Take {
				want = fmt.Sprintf("0 ? %d %d", kind, n)
			}
			line(t, link.Record{Kind: link.Asked, Request: event.Request{Kind: kind, Data: "ab", N: n}}, want)
		}
	}
	long := strings.Repeat("\xab", 5000)
	line(t, link.Record{Kind: link.Asked, Request: event.Request{Kind: event.Data, Data: long}}, "0 ? 7 "+strings.Repeat("ab", 5000))
	line(t, link.Record{Kind: link.Told, Signal: event.Signal{Kind: event.UnitInd, Data: long}}, "0 : unit "+strings.Repeat("ab", 5000))
}

// P19.1: Record of each, with a line feed behind it: of one of another kind that alone.
func TestLines(t *testing.T) {
	all := []link.Record{
		{Kind: link.Asked, Request: event.Request{Kind: event.Establish}},
		{Kind: link.Sent, Unit: pdu.PDU{Kind: pdu.BGN, SQ: 1, N: 4}},
		{Kind: 7},
		{End: 1, Kind: link.Lost},
	}
	for _, x := range []struct {
		l    []link.Record
		want string
	}{
		{nil, ""},
		{[]link.Record{}, ""},
		{all[:1], "0 ? 1 -\n"},
		{all, "0 ? 1 -\n0 > bgn sq1 n4 d-\n\n1 x\n"},
		{slices.Repeat(all[3:], 1000), strings.Repeat("1 x\n", 1000)},
	} {
		if got := Lines(x.l); got != x.want {
			t.Errorf("P19.1: Lines: %q, not %q", got, x.want)
		}
	}
	if Record(all[0]) != "0 ? 1 -" || Record(all[2]) != "" || Record(all[3]) != "1 x" {
		t.Errorf("rule 5: %+v", all)
	}
}

// play is a link, and what happened on it.
type play struct {
	*link.Link
	l []link.Record
}

// begin answers a link with these windows and Start.
func begin(t *testing.T, a, b int, start seq.Num, cc int) *play {
	t.Helper()
	end := func(window int) node.Config {
		return node.Config{Most: 3, Window: window, Queue: 8, Units: 8, Polls: 9, Start: start, Pace: pace.Config{CC: cc, Poll: 3, Keep: 6, Silent: 12, Idle: 5}}
	}
	l, code := link.New(link.Config{Ends: [2]node.Config{end(a), end(b)}, Room: 20})
	if code != api.OK {
		t.Fatalf("a link that may not be: code %d", code)
	}
	return &play{Link: l}
}

func (p *play) ask(end, kind int, data string) {
	l, _ := p.Request(end, event.Request{Kind: kind, Data: data})
	p.l = append(p.l, l...)
}

func (p *play) carry(ends ...int) {
	for _, end := range ends {
		p.become(end, pipe.Choice{})
	}
}

func (p *play) become(end int, c pipe.Choice) {
	l, _ := p.Carry(end, c)
	p.l = append(p.l, l...)
}

func (p *play) ticks(n int) {
	for range n {
		p.l = append(p.l, p.Tick()...)
	}
}

// want asks for all lines so far, with ; between.
func (p *play) want(t *testing.T, want string) {
	t.Helper()
	lines := strings.ReplaceAll(strings.ReplaceAll(want, " / ", "\n"), "; ", "\n") + "\n"
	if got := Lines(p.l); got != lines {
		t.Errorf("P19.1: Lines:\n%snot\n%s", got, lines)
	}
}

// P19.1: the lines of the document's examples of the whole.
func TestDocument(t *testing.T) {
	p := begin(t, 2, 3, 5, 4)
	p.ask(0, event.Establish, "a")
	p.carry(1)
	p.ask(1, event.Accept, "")
	p.carry(0)
	p.want(t, "0 ? 1 61; 0 > bgn sq1 n7 d61 / 1 < bgn sq1 n7 d61; 1 : establish 61 / 1 ? 2 -; 1 > bgak sq1 n8 / 0 < bgak sq1 n8; 0 : established")

	p = begin(t, 2, 3, 0, 4)
	p.ask(0, event.Establish, "")
	p.carry(1)
	p.ask(1, event.Release, "n")
	p.carry(0)
	p.want(t, "0 ? 1 -; 0 > bgn sq1 n2 d- / 1 < bgn sq1 n2 d-; 1 : establish - / 1 ? 3 6e; 1 > bgrej sq1 d6e / 0 < bgrej sq1 d6e; 0 : release user 6e")

	p = begin(t, 4, 4, 0, 4)
	p.ask(0, event.Establish, "")
	p.carry(1)
	p.ask(1, event.Accept, "")
	p.carry(0)
	p.l = nil
	p.ask(0, event.Data, "a")
	p.ask(0, event.Data, "b")
	p.become(1, pipe.Choice{Kind: pipe.Lose})
	p.carry(1, 0, 1)
	p.want(t, "0 ? 7 61; 0 > sd n0 d61 / 0 ? 7 62; 0 > sd n1 d62 / 1 x / 1 < sd n1 d62; 1 > ustat n0 mr4 l0,1 / 0 < ustat n0 mr4 l0,1; 0 : error V 1; 0 > sd n0 d61 / 1 < sd n0 d61; 1 : data 61; 1 : data 62")

	p = begin(t, 4, 4, 0, 4)
	p.ask(1, event.Unit, "u")
	p.carry(0)
	p.ask(0, event.Manage, "m")
	p.become(1, pipe.Choice{Kind: pipe.Spoil, At: 3, Mask: 1 << 31})
	p.want(t, "1 ? 8 75; 1 > ud d75 / 0 < ud d75; 0 : unit 75 / 0 ? 9 6d; 0 > md d6d / 1 #; 1 : error U")

	p = begin(t, 1, 1, 0, 4)
	p.ask(0, event.Establish, "")
	p.carry(1)
	p.ask(1, event.Accept, "")
	p.ticks(1)
	p.carry(0)
	p.l = nil
	p.ticks(2)
	p.carry(0, 1)
	p.want(t, "1 > poll n0 ps1 / 0 < poll n0 ps1; 0 > stat n0 ps1 mr1 l- / 1 < stat n0 ps1 mr1 l-")

	p = begin(t, 4, 4, 0, 2)
	p.ask(0, event.Establish, "")
	p.ticks(6)
	p.want(t, "0 ? 1 -; 0 > bgn sq1 n4 d- / 0 > bgn sq1 n4 d- / 0 > bgn sq1 n4 d- / 0 : error O; 0 : release self -; 0 > end sq1 self d-")

	p = begin(t, 4, 4, 0, 4)
	p.ask(0, event.Establish, "")
	p.carry(1)
	p.ask(1, event.Accept, "")
	p.carry(0)
	p.l = nil
	p.ask(0, event.Resync, "")
	p.ask(1, event.Resync, "")
	p.carry(1, 0)
	p.want(t, "0 ? 4 -; 0 > rs sq2 n4 d- / 1 ? 4 -; 1 > rs sq1 n4 d- / 1 < rs sq2 n4 d-; 1 : resynced; 1 > rsak sq2 n4 / 0 < rs sq1 n4 d-; 0 : resynced; 0 > rsak sq1 n4")
}
