package conn

import (
	"fmt"
	"math"
	"slices"
	"strings"
	"testing"

	"polliwog/api"
	"polliwog/event"
	"polliwog/pdu"
	"polliwog/rules"
	"polliwog/seq"
)

const top = api.Modulus - 1

// models has connections in each state, with numbers at which something may turn.
func models() []*model {
	var l []*model
	for state := rules.Idle; state <= rules.Ready; state++ {
		for _, sq := range []int{0, 1, 7, 254, 255} {
			for _, peer := range []int{-1, 0, 1, 7, 9, 255} {
				m := newModel(Config{Most: 3, Credit: 4})
				m.state, m.sq, m.peer, m.cc, m.ms = state, sq, peer, 2, 11
				l = append(l, m)
			}
		}
	}
	return l
}

// copied answers a model just like it.
func (m *model) copied() *model {
	c := *m
	return &c
}

// units has units of each kind, all of which may be.
func units() []pdu.PDU {
	var l []pdu.PDU
	for kind := pdu.BGN; kind <= pdu.ERAK; kind++ {
		for _, sq := range []int{0, 1, 7, 8, 9, 254, 255} {
			for _, n := range []seq.Num{0, 5, top} {
				for _, data := range []string{"", "x", strings.Repeat("\xff", 64)} {
					for _, self := range []bool{false, true} {
						l = append(l, pdu.PDU{Kind: kind, SQ: sq, N: n, Data: data, Self: self})
					}
				}
			}
		}
	}
	l = slices.DeleteFunc(l, func(p pdu.PDU) bool { return p.Check() != api.OK })
	return append(l,
		pdu.PDU{Kind: pdu.SD, N: 5, Data: strings.Repeat("d", 200)}, pdu.PDU{Kind: pdu.POLL, N: 5, PS: 7},
		pdu.PDU{Kind: pdu.STAT, N: 5, PS: 7, MR: 9, List: []seq.Num{5, 6}}, pdu.PDU{Kind: pdu.USTAT, N: 5, MR: 9, List: []seq.Num{5, 6}})
}

// texts has data as long as what may go along, and longer.
func texts() []string {
	return []string{"", "a", strings.Repeat("b", 63), strings.Repeat("c", 64), strings.Repeat("d", 65), strings.Repeat("e", 1000)}
}

// strange has kinds of requests that a connection doesn't do, and kinds of units that there aren't.
func strange() []int {
	return []int{math.MinInt, -1 << 32, -2, -1, 0, 16, 17, 255, 256, 257, 1 << 32, 1<<32 + 1, math.MaxInt}
}

// P14.1: each request in each state, with data of each length, also of those to which none belong.
func TestRequest(t *testing.T) {
	for _, m := range models() {
		for _, kind := range append(strange(), 1, 2, 3, 4, 5, 6, 7, 8, 9, 10, 11) {
			for _, data := range texts() {
				c, m := m.conn(), m.copied()
				before := *c
				got, code := c.Request(kind, data)
				want, wanted := m.request(kind, data)
				what := fmt.Sprintf("P14.1: state %d, request %d, %d bytes", before.state, kind, len(data))
				if code != wanted {
					t.Fatalf("%s: code %d, not %d", what, code, wanted)
				}
				same(t, what, c, m, got, want)
				if code != api.OK && *c != before {
					t.Fatalf("P14.2: %s: %+v", what, *c)
				}
				same(t, what+", Expire", c, m, c.Expire(), m.expire())
			}
		}
	}
}

// P14.2: of several errors the first one of the chapter's order is told.
func TestErrors(t *testing.T) {
	long := strings.Repeat("a", 65)
	for _, c := range []struct {
		state, kind int
		data        string
		want        api.Errno
	}{
		{rules.Idle, 0, long, api.ErrKind},
		{rules.Idle, event.Data, "a", api.ErrKind},
		{rules.Ready, event.Data, "a", api.ErrKind},
		{rules.Ready, event.Unit, long, api.ErrKind},
		{rules.Ready, event.Retrieve, "", api.ErrKind},
		{rules.Idle, event.Establish, long, api.ErrBig},
		{rules.Ready, event.Establish, long, api.ErrBig},
		{rules.Ready, event.Establish, long[1:], api.ErrState},
		{rules.Idle, event.Release, long, api.ErrBig},
		{rules.Idle, event.Release, long[1:], api.ErrState},
		{rules.Leaving, event.Release, "", api.ErrState},
		{rules.Idle, event.Resync, long, api.ErrBig},
		{rules.Idle, event.Resync, "", api.ErrState},
		{rules.Idle, event.Accept, long, api.ErrState},
		{rules.Incoming, event.Accept, long, api.OK},
		{rules.Resynced, event.Resynced, long, api.OK},
		{rules.Recovered, event.Recovered, long, api.OK},
		{rules.Answered, event.Recovered, long, api.OK},
		{rules.Recovered, event.Resync, "", api.ErrState},
		{rules.Answered, event.Resync, long[1:], api.OK},
	} {
		x := newModel(Config{Most: 1}).conn()
		x.state, x.peer = c.state, 5
		before := *x
		r, code := x.Request(c.kind, c.data)
		if code != c.want || code != api.OK && (!alike(r, Result{}) || *x != before) {
			t.Errorf("P14.2: state %d, request %d, %d bytes: code %d, not %d", c.state, c.kind, len(c.data), code, c.want)
		}
	}
}

// P14.1: each unit in each state, old or not, fitting or not; P14.2: one that is ignored changes nothing.
func TestReceive(t *testing.T) {
	all := units()
	for _, m := range models() {
		for _, p := range all {
			c, m := m.conn(), m.copied()
			before := *c
			what := fmt.Sprintf("P14.1: state %d, SQ %d, Peer %d: %+v", c.state, c.sq, c.peer, p)
			got, want := c.Receive(p), m.receive(p)
			same(t, what, c, m, got, want)
			if rules.Of(before.state, p.Kind) == rules.Ignore && (*c != before || !alike(got, Result{})) {
				t.Fatalf("P14.2: %s: ignored: %+v", what, *c)
			}
			may(t, what, got)
			same(t, what+", Expire", c, m, c.Expire(), m.expire())
		}
	}
}

// may asks that all units that go out may be, and that an epoch's numbers are told just if one begins.
func may(t *testing.T, what string, r Result) {
	t.Helper()
	for _, p := range r.Units {
		if code := p.Check(); code != api.OK {
			t.Fatalf("%s: %+v goes out: code %d", what, p, code)
		}
	}
	if !r.Begins && r.MS != 0 || r.MS > top {
		t.Fatalf("%s: %+v", what, r)
	}
}

// P14.2: units of messages, and those of a kind that there isn't, change nothing, whatever they have.
func TestNothing(t *testing.T) {
	for _, m := range models() {
		for _, kind := range append(strange(), pdu.UD, pdu.MD) {
			c := m.conn()
			before := *c
			if r := c.Receive(pdu.PDU{Kind: kind, SQ: c.sq}); !alike(r, Result{}) || *c != before {
				t.Fatalf("P14.2: state %d, kind %d: %+v", before.state, kind, r)
			}
		}
	}
	c := newModel(Config{}).conn()
	c.state = rules.Ready
	for _, p := range units() {
		switch p.Kind {
		case pdu.SD, pdu.POLL, pdu.STAT, pdu.USTAT:
			before := *c
			if r := c.Receive(p); !alike(r, Result{}) || *c != before {
				t.Fatalf("P14.2: in Ready: %+v: %+v", p, r)
			}
		}
	}
}

// P14.1: the timer in each state, at each count.
func TestExpire(t *testing.T) {
	for _, m := range models() {
		for most := 1; most <= 16; most++ {
			for cc := 0; cc <= 18; cc++ {
				m := m.copied()
				m.most, m.cc, m.data = most, cc, ""
				if slices.Contains([]int{rules.Outgoing, rules.Leaving, rules.Resyncing}, m.state) {
					m.data = "again"
				}
				c := m.conn()
				what := fmt.Sprintf("P14.1: state %d, the timer, %d of %d", m.state, cc, most)
				got := c.Expire()
				same(t, what, c, m, got, m.expire())
				may(t, what, got)
			}
		}
	}
}

// P14.1: what came can't be, or nothing came for too long: of Ready alone anything becomes.
func TestFail(t *testing.T) {
	for _, m := range models() {
		for _, code := range []byte{0, 'Q', 'R', 'S', 'T', 255} {
			c, k := m.conn(), m.copied()
			before := *c
			got := c.Fail(code)
			same(t, fmt.Sprintf("P14.1: state %d, Fail", m.state), c, k, got, k.fail(code))
			if before.state != rules.Ready && (*c != before || !alike(got, Result{})) {
				t.Fatalf("P14.1: state %d, Fail: %+v", m.state, got)
			}
			same(t, fmt.Sprintf("P14.1: state %d, Fail, Expire", m.state), c, k, c.Expire(), k.expire())
		}
		c, k := m.conn(), m.copied()
		before := *c
		got := c.Silent()
		same(t, fmt.Sprintf("P14.1: state %d, Silent", m.state), c, k, got, k.silent())
		if before.state != rules.Ready && (*c != before || !alike(got, Result{})) {
			t.Fatalf("P14.1: state %d, Silent: %+v", m.state, got)
		}
	}
}

// P14.1: at first; Most, and the credit, count as what they may be.
func TestNew(t *testing.T) {
	for credit, want := range map[seq.Num]seq.Num{0: 0, 5: 5, top: top, api.Modulus: 0, api.Modulus + 9: 9, math.MaxUint32: top} {
		c := New(Config{Most: 1, Credit: credit})
		if v := c.Vars(); v != (Vars{State: rules.Idle, Peer: -1, MS: want}) {
			t.Errorf("P14.1: credit %d: %+v", credit, v)
		}
		r, _ := c.Request(event.Establish, "")
		if len(r.Units) != 1 || r.Units[0].N != want || r.Units[0].Check() != api.OK {
			t.Errorf("P14.1: credit %d: %+v", credit, r)
		}
	}
	for most, want := range map[int]int{math.MinInt: 1, -1: 1, 0: 1, 1: 1, 2: 2, 15: 15, 16: 16, 17: 16, 1<<32 + 2: 16, math.MaxInt: 16} {
		c := New(Config{Most: most})
		r, _ := c.Request(event.Establish, "data")
		out := 0
		for len(r.Units) == 1 && r.Units[0].Kind == pdu.BGN {
			out++
			if v := c.Vars(); v.CC != out || r.Units[0].Data != "data" || r.Units[0].SQ != 1 || r.Timer != Starts {
				t.Fatalf("P14.1: of %d: %+v, %+v", most, v, r)
			}
			r = c.Expire()
		}
		if out != want || c.Vars().State != rules.Idle || r.Timer != Stops {
			t.Errorf("P14.1: of %d a unit goes out %d times, not %d", most, out, want)
		}
	}
}

// P14.1: the chapter's example; an answer of another SQ does nothing, and no second epoch begins.
func TestExample(t *testing.T) {
	c := New(Config{Most: 3, Credit: 4})
	r, code := c.Request(event.Establish, "a")
	if want := (Result{Units: []pdu.PDU{{Kind: pdu.BGN, SQ: 1, N: 4, Data: "a"}}, Timer: Starts}); code != api.OK || !alike(r, want) {
		t.Fatalf("P14.1: Establish: %+v, code %d", r, code)
	}
	for _, sq := range []int{0, 2, 255} {
		if r := c.Receive(pdu.PDU{Kind: pdu.BGAK, SQ: sq, N: 9}); !alike(r, Result{}) || c.Vars().MS != 4 {
			t.Fatalf("P14.1: a BGAK of SQ %d: %+v", sq, r)
		}
	}
	r = c.Receive(pdu.PDU{Kind: pdu.BGAK, SQ: 1, N: 9})
	if want := (Result{Signals: []event.Signal{{Kind: event.EstablishConf}}, Begins: true, MS: 9, Timer: Stops}); !alike(r, want) {
		t.Fatalf("P14.1: the BGAK: %+v", r)
	}
	if r := c.Receive(pdu.PDU{Kind: pdu.BGAK, SQ: 1, N: 9}); !alike(r, Result{}) {
		t.Fatalf("P14.3: the BGAK again: %+v", r)
	}
	r = c.Receive(pdu.PDU{Kind: pdu.END, SQ: 3, Self: true, Data: "b"})
	want := Result{
		Signals: []event.Signal{{Kind: event.ReleaseInd, Self: true, Data: "b"}},
		Units:   []pdu.PDU{{Kind: pdu.ENDAK, SQ: 3}},
		Ends:    true,
		Timer:   Stops,
	}
	if !alike(r, want) || c.Vars() != (Vars{State: rules.Idle, SQ: 1, Peer: -1, CC: 1, MS: 9}) {
		t.Fatalf("P14.1: the END: %+v, %+v", r, c.Vars())
	}
}

// P14.1: what there is of results, and of what the timer does.
func TestConstants(t *testing.T) {
	if Stays != 0 || Starts != 1 || Stops != 2 {
		t.Errorf("P14.1: %d, %d, %d", Stays, Starts, Stops)
	}
}

// P14.3: SQ goes round about at 255.
func TestRound(t *testing.T) {
	c := New(Config{Most: 1, Credit: 9})
	for i := 1; i < 600; i++ {
		r, _ := c.Request(event.Establish, "")
		if c.Vars().SQ != i%256 || r.Units[0].SQ != i%256 || r.Units[0].Check() != api.OK {
			t.Fatalf("P14.3: the BGN %d: %+v", i, r)
		}
		if r := c.Expire(); r.Units[0].SQ != i%256 || r.Units[0].Kind != pdu.END {
			t.Fatalf("P14.3: the END %d: %+v", i, r)
		}
	}
}

// dice throws numbers that are alike each time.
type dice uint64

// below throws a number from 0 on, below n.
func (d *dice) below(n int) int {
	*d = *d*6364136223846793005 + 1442695040888963407
	return int(uint64(*d)>>33) % n
}

// step does one thing to a connection and to the model of it, and holds them against one another.
func step(t *testing.T, c *Conn, m *model, d *dice) Result {
	t.Helper()
	was, before := *c, c.Vars()
	what := fmt.Sprintf("P14.1: behind %+v: ", before)
	var got, want Result
	var code, wanted api.Errno
	switch d.below(10) {
	case 0, 1, 2:
		kind, data := d.below(8), strings.Repeat("r", d.below(67))
		what += fmt.Sprintf("request %d", kind)
		got, code = c.Request(kind, data)
		want, wanted = m.request(kind, data)
		if code != wanted || code != api.OK && *c != was {
			t.Fatalf("P14.2: %s: code %d, not %d", what, code, wanted)
		}
	case 3, 4, 5, 6, 7:
		p := throw(d, before)
		what += fmt.Sprintf("%+v", p)
		got, want = c.Receive(p), m.receive(p)
		if rules.Of(before.State, p.Kind) == rules.Ignore && *c != was {
			t.Fatalf("P14.2: %s: ignored", what)
		}
	case 8:
		what += "Expire"
		got, want = c.Expire(), m.expire()
	case 9:
		what += "Fail, Silent"
		if d.below(3) > 0 {
			got, want = c.Fail('T'), m.fail('T')
		} else {
			got, want = c.Silent(), m.silent()
		}
	}
	same(t, what, c, m, got, want)
	may(t, what, got)
	return got
}

// throw answers a unit that may be, of those with an SQ mostly one that is old, or fits.
func throw(d *dice, v Vars) pdu.PDU {
	sq := []int{v.SQ, max(v.Peer, 0), (max(v.Peer, 0) + 1) % 256, d.below(256)}[d.below(4)]
	kind := 1 + d.below(15)
	p := pdu.PDU{Kind: kind, N: seq.Num(d.below(1 << 24)), SQ: sq, Self: d.below(2) == 0, Data: strings.Repeat("u", d.below(65))}
	switch kind {
	case pdu.STAT, pdu.USTAT:
		return pdu.PDU{Kind: kind, N: p.N, List: []seq.Num{3, 4}}
	case pdu.SD, pdu.POLL, pdu.UD, pdu.MD:
		return pdu.PDU{Kind: kind}
	case pdu.END, pdu.BGREJ, pdu.ENDAK:
		p.N = 0
	}
	p.Self = p.Self && kind == pdu.END
	if kind != pdu.BGN && kind != pdu.RS && kind != pdu.END && kind != pdu.BGREJ {
		p.Data = ""
	}
	return p
}

// P14.1, P14.2, P14.3: behind any calls: as the model has it; the state is one of the ten; an epoch begins behind the end of the one ahead.
func TestWalk(t *testing.T) {
	states := map[int]int{}
	for seed := range 60 {
		d := dice(seed)
		cf := Config{Most: d.below(6), Credit: seq.Num(d.below(1 << 31))}
		c, m := New(cf), newModel(cf)
		there := false
		for range 2000 {
			r := step(t, c, m, &d)
			if r.Ends && !there || r.Begins && there && !r.Ends {
				t.Fatalf("P14.3: an epoch: %t, then %+v", there, r)
			}
			there = there && !r.Ends || r.Begins
			v := c.Vars()
			if there != (v.State == rules.Ready) || v.State < 1 || v.State > 10 || v.SQ < 0 || v.SQ > 255 || v.Peer < -1 || v.Peer > 255 {
				t.Fatalf("P14.3: an epoch: %t; %+v", there, v)
			}
			if c.data != "" && !slices.Contains([]int{rules.Outgoing, rules.Leaving, rules.Resyncing}, v.State) {
				t.Fatalf("P14.3: %+v: data are kept that don't go out again", v)
			}
			states[v.State]++
		}
	}
	if len(states) != 10 {
		t.Errorf("the walks come to %d states", len(states))
	}
}

// P14.1: a clone is just like it, and goes its own way.
func TestClone(t *testing.T) {
	for seed := range 30 {
		d := dice(seed)
		c, m := New(Config{3, 9}), newModel(Config{3, 9})
		for range 5 * seed {
			step(t, c, m, &d)
		}
		x, k := c.Clone(), m.copied()
		for range 100 {
			step(t, x, k, &d)
			before := *x
			step(t, c, m, &d)
			if *x != before {
				t.Fatalf("P14.1: a clone goes along: %+v", x.Vars())
			}
		}
	}
}

// Rule 5: what is answered shares no memory with what is answered next.
func TestMemory(t *testing.T) {
	c, m := New(Config{9, 9}), newModel(Config{9, 9})
	d := dice(5)
	for range 2000 {
		r := step(t, c, m, &d)
		for i := range r.Units {
			r.Units[i] = pdu.PDU{Kind: 99}
		}
		for i := range r.Signals {
			r.Signals[i] = event.Signal{Kind: 99}
		}
		_ = append(r.Units, pdu.PDU{})
		_ = append(r.Signals, event.Signal{})
	}
}

// P1: each call ends, of any values of its arguments' types.
func TestCallsEnd(t *testing.T) {
	long := strings.Repeat("\xff", 1<<20)
	c := New(Config{Most: math.MinInt, Credit: math.MaxUint32})
	for _, m := range models() {
		*c = *m.conn()
		for _, kind := range append(strange(), 1, 2, 3, 4, 5, 6, 7, 8, 9, 10, 11, 12, 13, 14, 15) {
			for _, n := range []int{math.MinInt, -1, 0, 1, 255, 256, math.MaxInt} {
				c.Receive(pdu.PDU{Kind: kind, SQ: n, N: seq.Num(n), PS: seq.Num(n), MR: seq.Num(n), List: make([]seq.Num, 3), Self: true, Data: long})
				c.Request(kind, long)
				c.Request(kind, "")
				c.Expire()
				c.Fail(byte(n))
				if v := c.Vars(); v.State < rules.Idle || v.State > rules.Ready || v.SQ < 0 || v.SQ > 255 {
					t.Fatalf("P1: %+v", v)
				}
			}
		}
		c.Silent()
	}
}
