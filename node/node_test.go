package node

import (
	"fmt"
	"math"
	"slices"
	"strings"
	"testing"

	"polliwog/api"
	"polliwog/event"
	"polliwog/pace"
	"polliwog/pdu"
	"polliwog/rules"
	"polliwog/seq"
	"polliwog/timer"
)

const top = api.Modulus - 1

// usual is a config of an end with a little room.
func usual() Config {
	return Config{Most: 3, Window: 4, Queue: 3, Units: 2, Polls: 9, Pace: ticks()}
}

// ready answers an end in Ready that was asked by another one, with a credit, and nothing to go out.
func ready(t *testing.T, c Config, credit seq.Num) *Node {
	t.Helper()
	n := made(t, c)
	signals(t, "a BGN", n.Receive(pdu.PDU{Kind: pdu.BGN, SQ: 1, N: credit}), "establish -")
	asked(t, n, event.Request{Kind: event.Accept})
	goes(t, n, fmt.Sprintf("bgak sq1 n%d", c.Start.Add(c.Window)))
	return n
}

// signals asks for what is told.
func signals(t *testing.T, what string, got []event.Signal, want ...string) {
	t.Helper()
	var l []string
	for _, s := range got {
		l = append(l, s.Text())
	}
	if !slices.Equal(l, want) {
		t.Fatalf("P16.1: %s: told %q, not %q", what, l, want)
	}
}

// asked makes a request that may be made, and asks for what is told.
func asked(t *testing.T, n *Node, r event.Request, want ...string) {
	t.Helper()
	l, code := n.Request(r)
	if code != api.OK {
		t.Fatalf("P16.1: Request %+v: code %d", r, code)
	}
	signals(t, fmt.Sprintf("Request %+v", r), l, want...)
}

// refused makes a request that may not be made.
func refused(t *testing.T, n *Node, r event.Request, want api.Errno) {
	t.Helper()
	before := snap(n)
	l, code := n.Request(r)
	if code != want || len(l) != 0 {
		t.Fatalf("P16.2: Request %d, %d bytes, %d: %v, code %d, not %d", r.Kind, len(r.Data), r.N, l, code, want)
	}
	if snap(n) != before {
		t.Fatalf("P16.2: Request %d, code %d:\n%s, not\n%s", r.Kind, code, snap(n), before)
	}
}

// goes asks for all that goes out.
func goes(t *testing.T, n *Node, want ...string) {
	t.Helper()
	var l []string
	for range 50 {
		u, ok := n.Next()
		if !ok {
			break
		}
		if u.Check() != api.OK {
			t.Fatalf("P16.3: %+v goes out", u)
		}
		l = append(l, text(u))
	}
	if !slices.Equal(l, want) {
		t.Fatalf("P16.1: %q go out, not %q", l, want)
	}
}

// data lets messages wait, one by one.
func data(t *testing.T, n *Node, l ...string) {
	t.Helper()
	for _, m := range l {
		if _, code := n.Request(event.Request{Kind: event.Data, Data: m}); code != api.OK {
			t.Fatalf("P16.1: Data %q: code %d", m, code)
		}
	}
}

// P16.1: each number of a config at its edges; else the pace's error.
func TestCheck(t *testing.T) {
	for i, most := range []int{16, 64, 256, 64, 256} {
		for _, x := range []int{math.MinInt, -1, 0, 1, 2, most - 1, most, most + 1, 1 << 32, 1<<32 + 1, math.MaxInt} {
			c := usual()
			*[]*int{&c.Most, &c.Window, &c.Queue, &c.Units, &c.Polls}[i] = x
			want := api.OK
			if x < 1 || x > most {
				want = api.ErrArg
			}
			check(t, c, want)
		}
	}
	for _, x := range []struct {
		start seq.Num
		want  api.Errno
	}{{0, api.OK}, {1, api.OK}, {top, api.OK}, {api.Modulus, api.ErrArg}, {api.Modulus + 1, api.ErrArg}, {math.MaxUint32, api.ErrArg}} {
		c := usual()
		c.Start = x.start
		check(t, c, x.want)
	}
	c := usual()
	c.Pace.Poll = c.Pace.Silent
	check(t, c, api.ErrArg)
	c = usual()
	c.Pace = pace.Config{}
	check(t, c, api.ErrArg)
	check(t, Config{}, api.ErrArg)
}

// check asks Check, and New, which answers the same.
func check(t *testing.T, c Config, want api.Errno) {
	t.Helper()
	if code := c.Check(); code != want {
		t.Errorf("P16.1: Check of %+v: %d, not %d", c, code, want)
	}
	n, code := New(c)
	if code != want || (n == nil) != (want != api.OK) {
		t.Errorf("P16.1: New of %+v: %v, %d, not %d", c, n, code, want)
	}
}

// P16.1: a new end is in Idle, and nothing is there.
func TestNew(t *testing.T) {
	c := usual()
	c.Start = top
	n := made(t, c)
	want := Vars{}
	want.Conn.State, want.Conn.Peer, want.Conn.MS = rules.Idle, -1, 3
	if !alike(n.Vars(), want) || !n.Quiet() || !n.Safe() {
		t.Errorf("P16.1: a new end: %+v, Quiet %t, Safe %t", n.Vars(), n.Quiet(), n.Safe())
	}
	goes(t, n)
	signals(t, "Tick", n.Tick())
	if !alike(n.Vars(), want) {
		t.Errorf("P16.1: a new end, behind Next and Tick: %+v", n.Vars())
	}
}

// P16.1: the chapter's example; the credit is Start, and the window, round about.
func TestExample(t *testing.T) {
	c := usual()
	c.Start = top - 1
	n := made(t, c)
	asked(t, n, event.Request{Kind: event.Establish, Data: "a"})
	if n.Quiet() || n.Vars().Control != 1 {
		t.Errorf("P16.1: Quiet, with a BGN to go out")
	}
	goes(t, n, "bgn sq1 n2 d61")
	if !n.Quiet() {
		t.Errorf("P16.1: not Quiet, while it waits for an answer alone")
	}
}

// P16.2: of several errors the first one is told, and nothing is changed.
func TestRefused(t *testing.T) {
	long := strings.Repeat("a", 201)
	idle, there := made(t, usual()), ready(t, usual(), 4)
	data(t, there, "a", "b", "c")
	for _, n := range []*Node{idle, there} {
		asked(t, n, event.Request{Kind: event.Unit, Data: "u"})
		asked(t, n, event.Request{Kind: event.Manage, Data: long[1:]})
		refused(t, n, event.Request{Kind: 0}, api.ErrKind)
		refused(t, n, event.Request{Kind: 12, Data: long}, api.ErrKind)
		refused(t, n, event.Request{Kind: event.Data, Data: long}, api.ErrBig)
		refused(t, n, event.Request{Kind: event.Unit, Data: long}, api.ErrBig)
		refused(t, n, event.Request{Kind: event.Establish, Data: long[:65]}, api.ErrBig)
		refused(t, n, event.Request{Kind: event.Accept, Data: "a"}, api.ErrArg)
		refused(t, n, event.Request{Kind: event.Take}, api.ErrArg)
		refused(t, n, event.Request{Kind: event.Take, N: 65}, api.ErrArg)
		refused(t, n, event.Request{Kind: event.Accept}, api.ErrState)
		refused(t, n, event.Request{Kind: event.Resynced}, api.ErrState)
		refused(t, n, event.Request{Kind: event.Unit, Data: "u"}, api.ErrFull)
		refused(t, n, event.Request{Kind: event.Manage}, api.ErrFull)
	}
	refused(t, idle, event.Request{Kind: event.Data, Data: "a"}, api.ErrState)
	refused(t, idle, event.Request{Kind: event.Release}, api.ErrState)
	refused(t, there, event.Request{Kind: event.Data, Data: "a"}, api.ErrFull)
	refused(t, there, event.Request{Kind: event.Establish}, api.ErrState)
}

// P16.2: a message for which there is no room leaves the timers alone.
func TestRefusedData(t *testing.T) {
	n := ready(t, usual(), 0)
	asked(t, n, event.Request{Kind: event.Data, Data: "a"}, "error W")
	data(t, n, "b", "c")
	for range 3 {
		signals(t, "Tick", n.Tick())
	}
	goes(t, n, "poll n0 ps1")
	n.Tick()
	// As nothing more waits, Busy would begin the phase anew.
	n.pace.Polled(true)
	refused(t, n, event.Request{Kind: event.Data, Data: "d"}, api.ErrFull)
}

// P16.2: credit that is lacking is told by the next call that does something, not by a request that is refused.
func TestRefusedCredit(t *testing.T) {
	n := ready(t, usual(), 1)
	data(t, n, "a", "b")
	goes(t, n, "sd n0 d61")
	refused(t, n, event.Request{Kind: event.Establish}, api.ErrState)
	refused(t, n, event.Request{Kind: event.Take}, api.ErrArg)
	data(t, n.Clone(), "c", "d")
	asked(t, n, event.Request{Kind: event.Retrieve}, "error W")
}

// P16.1: control units go out in the order they were put, each behind all others; one of the same kind goes.
func TestControl(t *testing.T) {
	n := made(t, usual())
	asked(t, n, event.Request{Kind: event.Establish, Data: "a"})
	asked(t, n, event.Request{Kind: event.Release, Data: "b"})
	asked(t, n, event.Request{Kind: event.Establish, Data: "c"})
	if n.Vars().Control != 2 {
		t.Errorf("P16.4: %d control units", n.Vars().Control)
	}
	goes(t, n, "end sq1 d62", "bgn sq2 n4 d63")
	// Refused units make the END alone go out anew.
	n = made(t, usual())
	for range 3 {
		signals(t, "an SD", n.Receive(pdu.PDU{Kind: pdu.SD}), "error A")
		signals(t, "an END", n.Receive(pdu.PDU{Kind: pdu.END, SQ: 7}))
		signals(t, "an END", n.Receive(pdu.PDU{Kind: pdu.END, SQ: 8}))
	}
	goes(t, n, "end sq0 self d-", "endak sq8")
}

// P16.4: all nine kinds may wait at once, and are never more.
func TestControlMost(t *testing.T) {
	n := made(t, usual())
	asked(t, n, event.Request{Kind: event.Establish})
	n.Receive(pdu.PDU{Kind: pdu.BGN, SQ: 1, N: 4})
	asked(t, n, event.Request{Kind: event.Resync})
	n.Receive(pdu.PDU{Kind: pdu.RS, SQ: 2, N: 4})
	n.Receive(pdu.PDU{Kind: pdu.POLL, N: 99})
	n.Receive(pdu.PDU{Kind: pdu.ER, SQ: 3, N: 4})
	n.Receive(pdu.PDU{Kind: pdu.END, SQ: 3})
	n.Receive(pdu.PDU{Kind: pdu.SD})
	n.Receive(pdu.PDU{Kind: pdu.BGN, SQ: 4, N: 4})
	asked(t, n, event.Request{Kind: event.Release})
	want := []string{"bgn sq1 n4 d-", "bgak sq1 n4", "rs sq2 n4 d-", "rsak sq2 n4", "er sq3 n4", "erak sq3 n4", "endak sq3", "end sq3 self d-", "bgrej sq4 d-"}
	bounds(t, n)
	if v := n.Vars(); v.Control != 9 {
		t.Errorf("P16.4: %d control units", v.Control)
	}
	goes(t, n.Clone(), want...)
	n.Receive(pdu.PDU{Kind: pdu.BGN, SQ: 4, N: 4})
	asked(t, n, event.Request{Kind: event.Establish})
	goes(t, n, append(slices.Clone(want[1:8]), "bgrej sq4 d-", "bgn sq4 n4 d-")...)
}

// P16.1: the timer CC starts, and stops, as the connection says, and lets units go out again.
func TestCC(t *testing.T) {
	n := made(t, usual())
	asked(t, n, event.Request{Kind: event.Establish})
	goes(t, n, "bgn sq1 n4 d-")
	if left := n.Vars().Timers; left != [5]int{4, 0, 0, 0, 0} {
		t.Errorf("P16.1: the timers: %v", left)
	}
	for range 2 {
		for range 3 {
			signals(t, "Tick", n.Tick())
			goes(t, n)
		}
		signals(t, "Tick", n.Tick())
		goes(t, n, "bgn sq1 n4 d-")
	}
	signals(t, "a BGAK", n.Clone().Receive(pdu.PDU{Kind: pdu.BGAK, SQ: 1, N: 4}), "established")
	m := n.Clone()
	m.Receive(pdu.PDU{Kind: pdu.BGAK, SQ: 1, N: 4})
	if left := m.Vars().Timers; left != [5]int{0, 3, 0, 12, 0} {
		t.Errorf("P16.1: the timers: %v", left)
	}
	for range 3 {
		signals(t, "Tick", n.Tick())
	}
	signals(t, "Tick", n.Tick(), "error O", "release self -")
	goes(t, n, "end sq1 self d-")
	if left := n.Vars().Timers; left != [5]int{} {
		t.Errorf("P16.1: the timers: %v", left)
	}
}

// P16.1: an epoch that ends leaves what wasn't acknowledged, and what waits; nothing is due; one that begins is new.
func TestEpoch(t *testing.T) {
	n := ready(t, usual(), 2)
	data(t, n, "a", "b", "c")
	goes(t, n, "sd n0 d61", "sd n1 d62")
	n.Receive(pdu.PDU{Kind: pdu.STAT, N: 1, MR: 2})
	n.Receive(pdu.PDU{Kind: pdu.SD, N: 2, Data: "x"})
	n.Receive(pdu.PDU{Kind: pdu.POLL, N: 3, PS: 9})
	for range 3 {
		n.Tick()
	}
	v := n.Vars()
	if !v.PollDue || !v.StatDue || !v.Lacks || v.Recv.Gaps != 1 || v.Left != 0 {
		t.Fatalf("P16.1: in Ready: %+v", v)
	}
	asked(t, n, event.Request{Kind: event.Resync, Data: "r"})
	v = n.Vars()
	if v.PollDue || v.StatDue || v.Lacks || v.Left != 2 || v.Send.S != 0 || v.Recv.H != 0 || v.Timers != [5]int{4, 0, 0, 0, 0} {
		t.Fatalf("P16.1: behind the end: %+v", v)
	}
	goes(t, n, "rs sq1 n4 d72")
	signals(t, "an RSAK", n.Receive(pdu.PDU{Kind: pdu.RSAK, SQ: 1, N: 3}), "resynced")
	v = n.Vars()
	if v.Send.MS != 3 || v.Send.S != 0 || v.Send.Queued != 0 || v.Recv.MR != 4 || v.Recv.H != 0 || v.PollDue || v.StatDue || v.Left != 2 || v.Timers != [5]int{0, 3, 0, 12, 0} {
		t.Fatalf("P16.1: begun anew: %+v", v)
	}
	goes(t, n)
	data(t, n, "d")
	goes(t, n, "sd n0 d64")
	asked(t, n, event.Request{Kind: event.Retrieve}, "retrieved 62", "retrieved 63")
	asked(t, n, event.Request{Kind: event.Retrieve})
	asked(t, n, event.Request{Kind: event.Release})
	asked(t, n, event.Request{Kind: event.Retrieve}, "retrieved 64")
	if n.Vars().Left != 0 {
		t.Errorf("P16.1: %d are left", n.Vars().Left)
	}
}

// P16.1: what was left is what the last epoch left, though that is nothing.
func TestLeftNow(t *testing.T) {
	n := ready(t, usual(), 2)
	data(t, n, "a")
	asked(t, n, event.Request{Kind: event.Resync})
	n.Receive(pdu.PDU{Kind: pdu.RSAK, SQ: 1, N: 3})
	if n.Vars().Left != 1 {
		t.Errorf("P16.1: %d are left", n.Vars().Left)
	}
	asked(t, n, event.Request{Kind: event.Resync})
	if n.Vars().Left != 0 {
		t.Errorf("P16.1: %d are left, of an epoch without messages", n.Vars().Left)
	}
	asked(t, n, event.Request{Kind: event.Retrieve})
}

// P16.1: a unit of messages goes out, and comes, in each state.
func TestUnits(t *testing.T) {
	n := made(t, usual())
	for _, state := range []int{rules.Idle, rules.Outgoing, rules.Leaving, rules.Incoming, rules.Ready} {
		switch state {
		case rules.Outgoing:
			asked(t, n, event.Request{Kind: event.Establish})
		case rules.Leaving:
			asked(t, n, event.Request{Kind: event.Release})
		case rules.Incoming:
			n.Receive(pdu.PDU{Kind: pdu.BGN, SQ: 1, N: 4})
		case rules.Ready:
			asked(t, n, event.Request{Kind: event.Accept})
		}
		for ok := true; ok; {
			_, ok = n.Next()
		}
		asked(t, n, event.Request{Kind: event.Manage, Data: "m"})
		asked(t, n, event.Request{Kind: event.Unit})
		if n.Vars().Conn.State != state || n.Vars().Units != 2 || n.Quiet() {
			t.Errorf("P16.1: %+v, Quiet %t", n.Vars(), n.Quiet())
		}
		goes(t, n, "md d6d", "ud d-")
		if n.Vars().Units != 0 {
			t.Errorf("P16.1: %+v", n.Vars())
		}
		before := snap(n)
		signals(t, "a UD", n.Receive(pdu.PDU{Kind: pdu.UD, Data: "u"}), "unit 75")
		signals(t, "an MD", n.Receive(pdu.PDU{Kind: pdu.MD}), "manage -")
		signals(t, "Garbled", n.Garbled(), "error U")
		if snap(n) != before {
			t.Errorf("P16.1: changed by what came:\n%s, not\n%s", snap(n), before)
		}
	}
}

// P16.1: a message wakes the timers, in the idle phase.
func TestBusy(t *testing.T) {
	n := ready(t, usual(), 4)
	for range 3 {
		signals(t, "Tick", n.Tick())
	}
	goes(t, n, "poll n0 ps1")
	if left := n.Vars().Timers; left != [5]int{0, 0, 6, 9, 0} {
		t.Fatalf("P16.1: behind a poll: %v", left)
	}
	m := n.Clone()
	data(t, m, "a")
	if left := m.Vars().Timers; left != [5]int{0, 3, 0, 9, 0} {
		t.Errorf("P16.1: behind Data, in the transient phase: %v", left)
	}
	signals(t, "a STAT", n.Receive(pdu.PDU{Kind: pdu.STAT, PS: 1, MR: 4}))
	if left := n.Vars().Timers; left != [5]int{0, 0, 0, 0, 5} {
		t.Fatalf("P16.1: behind the answer: %v", left)
	}
	data(t, n, "a")
	if left := n.Vars().Timers; left != [5]int{0, 3, 0, 12, 0} {
		t.Errorf("P16.1: behind Data, in the idle phase: %v", left)
	}
}

// P16.1: what is taken makes room for more to come; outside of Ready nothing is taken.
func TestTake(t *testing.T) {
	n := ready(t, usual(), 4)
	for i := range 4 {
		signals(t, "an SD", n.Receive(pdu.PDU{Kind: pdu.SD, N: seq.Num(i), Data: "a"}), "data 61")
	}
	signals(t, "an SD beyond the credit", n.Receive(pdu.PDU{Kind: pdu.SD, N: 4, Data: "a"}))
	n.Receive(pdu.PDU{Kind: pdu.POLL, N: 4, PS: 1})
	goes(t, n, "stat n4 ps1 mr4 l-")
	asked(t, n, event.Request{Kind: event.Take, N: 3})
	if v := n.Vars(); v.Recv.Inbox != 1 {
		t.Errorf("P16.1: %+v", v.Recv)
	}
	n.Receive(pdu.PDU{Kind: pdu.POLL, N: 4, PS: 2})
	goes(t, n, "stat n4 ps2 mr7 l-")
	asked(t, n, event.Request{Kind: event.Take, N: 64})
	if v := n.Vars(); v.Recv.Inbox != 0 {
		t.Errorf("P16.1: %+v", v.Recv)
	}
	n = made(t, usual())
	before := snap(n)
	asked(t, n, event.Request{Kind: event.Take, N: 1})
	if snap(n) != before {
		t.Errorf("P16.1: Take in Idle: %s", snap(n))
	}
}

// P16.1: messages that come, in their order, and those that wait for others.
func TestData(t *testing.T) {
	n := ready(t, usual(), 4)
	signals(t, "an SD", n.Receive(pdu.PDU{Kind: pdu.SD, N: 1, Data: "b"}))
	signals(t, "an SD", n.Receive(pdu.PDU{Kind: pdu.SD, N: 3, Data: "d"}))
	signals(t, "an SD", n.Receive(pdu.PDU{Kind: pdu.SD, N: 0, Data: "a"}), "data 61", "data 62")
	signals(t, "an SD that came", n.Receive(pdu.PDU{Kind: pdu.SD, N: 0, Data: "a"}))
	goes(t, n, "ustat n2 mr4 l2,3")
	signals(t, "an SD", n.Receive(pdu.PDU{Kind: pdu.SD, N: 2}), "data -", "data 64")
}

// P16.1: what can't be makes the end recover, with its letter; all that went out is left.
func TestFail(t *testing.T) {
	for _, x := range []struct {
		letter string
		u      pdu.PDU
	}{
		{"Q", pdu.PDU{Kind: pdu.POLL, N: 5, PS: 1}},
		{"Q", pdu.PDU{Kind: pdu.POLL, N: top, PS: 1}},
		{"R", pdu.PDU{Kind: pdu.STAT, PS: 2}},
		{"R", pdu.PDU{Kind: pdu.STAT, PS: top, N: 7, List: []seq.Num{1, 1}}},
		{"S", pdu.PDU{Kind: pdu.STAT, PS: 1, N: 3}},
		{"S", pdu.PDU{Kind: pdu.STAT, PS: 1, N: 1, List: []seq.Num{1, 3}}},
		{"S", pdu.PDU{Kind: pdu.STAT, PS: 0, N: 0, List: []seq.Num{1, 1}}},
		{"T", pdu.PDU{Kind: pdu.USTAT, N: 3, List: []seq.Num{0, 1}}},
		{"T", pdu.PDU{Kind: pdu.USTAT, N: 0, List: []seq.Num{1, 0}}},
		{"T", pdu.PDU{Kind: pdu.USTAT, N: 0, List: []seq.Num{1, 3}}},
	} {
		n := ready(t, usual(), 4)
		data(t, n, "a", "b")
		goes(t, n, "sd n0 d61", "sd n1 d62")
		for range 3 {
			n.Tick()
		}
		goes(t, n, "poll n2 ps1")
		if x.u.Check() != api.OK {
			t.Fatalf("a unit that may not be: %+v", x.u)
		}
		signals(t, fmt.Sprintf("%+v", x.u), n.Receive(x.u), "error "+x.letter)
		v := n.Vars()
		if v.Conn.State != rules.Recovering || v.Left != 2 || v.StatDue || v.Timers != [5]int{4, 0, 0, 0, 0} {
			t.Errorf("P16.1: behind %+v: %+v", x.u, v)
		}
		goes(t, n, "er sq1 n4")
		signals(t, "an ERAK", n.Receive(pdu.PDU{Kind: pdu.ERAK, SQ: 1, N: 2}), "recover")
		asked(t, n, event.Request{Kind: event.Recovered})
		if v := n.Vars(); v.Send.MS != 2 || v.Send.S != 0 {
			t.Errorf("P16.1: recovered: %+v", v)
		}
	}
}

// P16.1: what can be: a V of how many go again, none of none; only a STAT answers a poll.
func TestReports(t *testing.T) {
	begin := func() *Node {
		n := ready(t, usual(), 4)
		data(t, n, "a", "b", "c")
		goes(t, n, "sd n0 d61", "sd n1 d62", "sd n2 d63")
		for range 3 {
			n.Tick()
		}
		goes(t, n, "poll n3 ps1")
		return n
	}
	active, answered := [5]int{0, 3, 0, 9, 0}, [5]int{0, 3, 0, 12, 0}
	for _, x := range []struct {
		u    pdu.PDU
		told []string
		left [5]int
		out  []string
	}{
		{pdu.PDU{Kind: pdu.STAT, PS: 1, N: 0, MR: 4, List: []seq.Num{0, 2}}, []string{"error V 2"}, answered, []string{"sd n0 d61", "sd n1 d62"}},
		{pdu.PDU{Kind: pdu.STAT, PS: 1, N: 1, MR: 5, List: []seq.Num{2, 3}}, []string{"error V 1"}, answered, []string{"sd n2 d63"}},
		{pdu.PDU{Kind: pdu.STAT, PS: 0, N: 1, MR: 5, List: []seq.Num{2, 3}}, nil, answered, nil},
		{pdu.PDU{Kind: pdu.STAT, PS: 1, N: 2, MR: 4}, nil, answered, nil},
		{pdu.PDU{Kind: pdu.STAT, PS: 1, N: 3, MR: 4}, nil, answered, nil},
		{pdu.PDU{Kind: pdu.USTAT, N: 1, MR: 5, List: []seq.Num{1, 3}}, []string{"error V 2"}, active, []string{"sd n1 d62", "sd n2 d63"}},
	} {
		n := begin()
		signals(t, fmt.Sprintf("%+v", x.u), n.Receive(x.u), x.told...)
		if got := n.Vars().Timers; got != x.left {
			t.Errorf("P16.1: behind %+v: the timers %v, not %v", x.u, got, x.left)
		}
		goes(t, n, x.out...)
	}
	// What is to go again already doesn't go twice.
	n := begin()
	u := pdu.PDU{Kind: pdu.USTAT, N: 0, MR: 4, List: []seq.Num{0, 2}}
	signals(t, "a USTAT", n.Receive(u), "error V 2")
	signals(t, "the USTAT again", n.Receive(u))
	signals(t, "a STAT", n.Receive(pdu.PDU{Kind: pdu.STAT, PS: 1, MR: 4, List: []seq.Num{1, 3}}), "error V 1")
	goes(t, n, "sd n0 d61", "sd n1 d62", "sd n2 d63")
}

// P16.1: units of messages' flow are, outside of Ready, what the connection does with them.
func TestOutside(t *testing.T) {
	for _, x := range []struct {
		kind   int
		letter string
	}{{pdu.SD, "A"}, {pdu.POLL, "G"}, {pdu.STAT, "H"}, {pdu.USTAT, "I"}} {
		u := pdu.PDU{Kind: x.kind}
		if x.kind == pdu.USTAT {
			u.List = []seq.Num{0, 1}
		}
		n := made(t, usual())
		signals(t, u.Name(), n.Receive(u), "error "+x.letter)
		goes(t, n, "end sq0 self d-")
		n.Receive(pdu.PDU{Kind: pdu.BGN, SQ: 1, N: 4})
		signals(t, u.Name(), n.Receive(u), "error "+x.letter)
		asked(t, n, event.Request{Kind: event.Accept})
		asked(t, n, event.Request{Kind: event.Resync})
		goes(t, n, "bgak sq1 n4", "rs sq1 n4 d-")
		signals(t, u.Name(), n.Receive(u))
		goes(t, n)
	}
}

// P16.1: in Ready an RSAK, which is ignored, and a BGREJ, by which all falls.
func TestFall(t *testing.T) {
	n := ready(t, usual(), 4)
	data(t, n, "a")
	signals(t, "an RSAK", n.Receive(pdu.PDU{Kind: pdu.RSAK, SQ: 0, N: 9}))
	signals(t, "a BGREJ", n.Receive(pdu.PDU{Kind: pdu.BGREJ, SQ: 9}), "error D", "release self -")
	v := n.Vars()
	if v.Conn.State != rules.Idle || v.Left != 1 || v.Timers != [5]int{} || !n.Quiet() {
		t.Errorf("P16.1: %+v, Quiet %t", v, n.Quiet())
	}
}

// P16.1: each timer: a poll is due behind Poll, Keep and Idle, and behind Silent the end gives up.
func TestTick(t *testing.T) {
	n := ready(t, usual(), 4)
	step := func(ticks int, due bool, want ...string) {
		t.Helper()
		for range ticks - 1 {
			signals(t, "Tick", n.Tick())
			goes(t, n)
		}
		signals(t, "Tick", n.Tick(), want...)
		if n.Vars().PollDue != due || due && n.Quiet() {
			t.Fatalf("P16.1: %+v, Quiet %t", n.Vars(), n.Quiet())
		}
	}
	step(3, true)
	goes(t, n, "poll n0 ps1")
	step(6, true)
	goes(t, n, "poll n0 ps2")
	signals(t, "a STAT", n.Receive(pdu.PDU{Kind: pdu.STAT, PS: 2, MR: 4}))
	if !n.Quiet() || !n.Safe() {
		t.Errorf("P16.1: Quiet %t, Safe %t", n.Quiet(), n.Safe())
	}
	step(5, true)
	goes(t, n, "poll n0 ps3")
	if left := n.Vars().Timers; left != [5]int{0, 0, 6, 12, 0} {
		t.Fatalf("P16.1: the timers: %v", left)
	}
	step(6, true)
	goes(t, n, "poll n0 ps4")
	data(t, n, "a")
	goes(t, n, "sd n0 d61")
	step(3, true)
	if n.Safe() {
		t.Errorf("P16.1: Safe: %v", n.Vars().Timers)
	}
	// Silent is over; the poll that is due isn't any more.
	for range 2 {
		signals(t, "Tick", n.Tick())
	}
	signals(t, "Tick", n.Tick(), "error P", "release self -")
	if v := n.Vars(); v.PollDue || v.Left != 1 || v.Conn.State != rules.Idle || v.Timers != [5]int{} {
		t.Errorf("P16.1: %+v", v)
	}
	goes(t, n, "end sq0 self d-")
}

// P16.1: of two timers that are over at once, Poll and Silent: no poll is due.
func TestTickBoth(t *testing.T) {
	c := usual()
	c.Pace = pace.Config{CC: 1, Poll: 2, Keep: 1, Silent: 4, Idle: 1}
	n := ready(t, c, 4)
	n.Tick()
	n.Tick()
	data(t, n, "a")
	goes(t, n, "poll n0 ps1", "sd n0 d61")
	if left := n.Vars().Timers; left != [5]int{0, 2, 0, 2, 0} {
		t.Fatalf("P16.1: the timers: %v", left)
	}
	signals(t, "Tick", n.Tick())
	signals(t, "Tick", n.Tick(), "error P", "release self -")
	if n.Vars().PollDue {
		t.Errorf("P16.1: a poll is due: %+v", n.Vars())
	}
	goes(t, n, "end sq0 self d-")
}

// P16.1: that credit is lacking is told behind the next call, once, and that it isn't any more.
func TestCredit(t *testing.T) {
	n := ready(t, usual(), 0)
	asked(t, n, event.Request{Kind: event.Data, Data: "a"}, "error W")
	asked(t, n, event.Request{Kind: event.Data, Data: "b"})
	signals(t, "Tick", n.Tick())
	goes(t, n)
	signals(t, "a STAT", n.Receive(pdu.PDU{Kind: pdu.STAT, MR: 1}), "error X")
	goes(t, n, "sd n0 d61")
	if n.Vars().Lacks {
		t.Errorf("P16.1: Lacks ahead of the next call")
	}
	signals(t, "Garbled", n.Garbled(), "error U")
	signals(t, "Tick", n.Tick(), "error W")
	signals(t, "a STAT", n.Receive(pdu.PDU{Kind: pdu.STAT, MR: 2}), "error X")
	goes(t, n, "sd n1 d62")
	signals(t, "Tick", n.Tick())
	asked(t, n, event.Request{Kind: event.Data, Data: "c"}, "error W")
	// Behind the end of the epoch it is told of no more.
	asked(t, n, event.Request{Kind: event.Release})
	if n.Vars().Lacks {
		t.Errorf("P16.1: Lacks without an epoch")
	}
	// Beside other signals it is the last one.
	n = ready(t, usual(), 1)
	data(t, n, "a", "b")
	goes(t, n, "sd n0 d61")
	signals(t, "an SD", n.Receive(pdu.PDU{Kind: pdu.SD, N: 0, Data: "x"}), "data 78", "error W")
	signals(t, "a USTAT", n.Receive(pdu.PDU{Kind: pdu.USTAT, MR: 2, List: []seq.Num{0, 1}}), "error V 1", "error X")
}

// P16.5: no new message goes out beyond the credit, wherever that stands.
func TestCreditRound(t *testing.T) {
	for _, start := range []seq.Num{0, top, top - 1, api.Half, api.Half - 1} {
		c := usual()
		c.Queue, c.Start = 9, start
		n := ready(t, c, start.Add(2))
		data(t, n, "a", "b", "c", "d")
		goes(t, n, fmt.Sprintf("sd n%d d61", start), fmt.Sprintf("sd n%d d62", start.Add(1)))
		// One that is nearer, or too far, is none.
		for _, mr := range []seq.Num{start, start.Add(1), start.Add(2), start.Add(api.Half + 1), start.Add(-1)} {
			n.Receive(pdu.PDU{Kind: pdu.STAT, N: start, PS: start, MR: mr})
			goes(t, n)
		}
		n.Receive(pdu.PDU{Kind: pdu.STAT, N: start, PS: start, MR: start.Add(3)})
		goes(t, n, fmt.Sprintf("sd n%d d63", start.Add(2)))
	}
}

// P16.1: Next takes what there is in its order.
func TestNext(t *testing.T) {
	c := usual()
	c.Polls = 2
	n := ready(t, c, 9)
	data(t, n, "a")
	asked(t, n, event.Request{Kind: event.Unit, Data: "u"})
	for range 3 {
		n.Tick()
	}
	n.Receive(pdu.PDU{Kind: pdu.SD, N: 2, Data: "x"})
	n.Receive(pdu.PDU{Kind: pdu.POLL, N: 3, PS: 7})
	n.Receive(pdu.PDU{Kind: pdu.POLL, N: 3, PS: 8})
	n.Receive(pdu.PDU{Kind: pdu.BGN, SQ: 1, N: 9})
	data(t, n, "b", "c")
	v := n.Vars()
	if v.Control != 1 || v.Units != 1 || !v.StatDue || v.Recv.Gaps != 1 || !v.PollDue {
		t.Fatalf("P16.1: %+v", v)
	}
	goes(t, n, "bgak sq1 n4", "ud d75", "stat n0 ps8 mr4 l0,2", "ustat n0 mr4 l0,2", "poll n0 ps1", "sd n0 d61", "sd n1 d62", "poll n2 ps2", "sd n2 d63")
	n.Receive(pdu.PDU{Kind: pdu.USTAT, N: 0, MR: 9, List: []seq.Num{0, 2}})
	data(t, n, "d")
	goes(t, n, "sd n0 d61", "poll n3 ps3", "sd n1 d62", "sd n3 d64", "poll n4 ps4")
}

// P16.1: Next of none changes nothing.
func TestNextNone(t *testing.T) {
	for _, n := range []*Node{made(t, usual()), ready(t, usual(), 0)} {
		n.Request(event.Request{Kind: event.Data, Data: "a"})
		before := snap(n)
		for range 3 {
			if u, ok := n.Next(); ok || !same(u, pdu.PDU{}) || snap(n) != before {
				t.Errorf("P16.1: Next: %+v, %t: %s", u, ok, snap(n))
			}
		}
	}
}

// P16.1: Quiet: each thing that waits, by itself.
func TestQuiet(t *testing.T) {
	for what, do := range map[string]func(n *Node){
		"a control unit":   func(n *Node) { n.Receive(pdu.PDU{Kind: pdu.BGN, SQ: 1}) },
		"a unit":           func(n *Node) { n.Request(event.Request{Kind: event.Unit}) },
		"a status":         func(n *Node) { n.Receive(pdu.PDU{Kind: pdu.POLL}) },
		"a gap":            func(n *Node) { n.Receive(pdu.PDU{Kind: pdu.SD, N: 1}) },
		"a message":        func(n *Node) { n.Request(event.Request{Kind: event.Data}) },
		"one that is kept": func(n *Node) { n.Request(event.Request{Kind: event.Data}); n.Next() },
		"a poll": func(n *Node) {
			for range 3 {
				n.Tick()
			}
		},
	} {
		n := ready(t, usual(), 4)
		if !n.Quiet() {
			t.Errorf("P16.1: not Quiet: %+v", n.Vars())
		}
		if do(n); n.Quiet() {
			t.Errorf("P16.1: Quiet with %s: %+v", what, n.Vars())
		}
	}
	// A poll of the sender's own doesn't count, nor what a user left.
	c := usual()
	c.Polls = 1
	n := ready(t, c, 4)
	data(t, n, "a")
	n.Next()
	n.Receive(pdu.PDU{Kind: pdu.STAT, N: 1, MR: 4})
	n.Receive(pdu.PDU{Kind: pdu.SD, Data: "x"})
	if !n.Quiet() {
		t.Errorf("P16.1: not Quiet: %+v", n.Vars())
	}
	goes(t, n, "poll n1 ps1")
	if !n.Quiet() {
		t.Errorf("P16.1: not Quiet: %+v", n.Vars())
	}
}

// P16.1: a clone goes its own way, in all that an end has.
func TestClone(t *testing.T) {
	begin := func() *Node {
		n := ready(t, usual(), 4)
		data(t, n, "a", "b")
		asked(t, n, event.Request{Kind: event.Resync})
		n.Receive(pdu.PDU{Kind: pdu.RSAK, SQ: 1, N: 2})
		data(t, n, "c", "d", "e")
		asked(t, n, event.Request{Kind: event.Unit, Data: "u"})
		n.Receive(pdu.PDU{Kind: pdu.SD, N: 1, Data: "x"})
		n.Receive(pdu.PDU{Kind: pdu.POLL, N: 2, PS: 1})
		return n
	}
	for what, do := range map[string]func(n *Node){
		"Next": func(n *Node) {
			for ok := true; ok; {
				_, ok = n.Next()
			}
		},
		"Tick":     func(n *Node) { n.Tick() },
		"Retrieve": func(n *Node) { n.Request(event.Request{Kind: event.Retrieve}) },
		"Release":  func(n *Node) { n.Request(event.Request{Kind: event.Release}) },
		"Manage":   func(n *Node) { n.Request(event.Request{Kind: event.Manage}) },
		"SD":       func(n *Node) { n.Receive(pdu.PDU{Kind: pdu.SD, Data: "y"}) },
		"STAT":     func(n *Node) { n.Receive(pdu.PDU{Kind: pdu.STAT, MR: 3}) },
		"BGN":      func(n *Node) { n.Receive(pdu.PDU{Kind: pdu.BGN, SQ: 3}) },
	} {
		n := begin()
		c := n.Clone()
		before := snap(n)
		if snap(c) != before {
			t.Errorf("P16.1: a clone: %s, not %s", snap(c), before)
		}
		do(c)
		if snap(n) != before || snap(c) == before {
			t.Errorf("P16.1: %s of a clone:\n%s, not\n%s", what, snap(n), before)
		}
		c = begin().Clone()
		do(n)
		if snap(c) != before {
			t.Errorf("P16.1: %s of what was cloned:\n%s, not\n%s", what, snap(c), before)
		}
		do(c)
		if snap(c) != snap(n) {
			t.Errorf("P16.1: %s: a clone:\n%s, not\n%s", what, snap(c), snap(n))
		}
	}
}

// Rule 5: what is answered is new memory.
func TestNewMemory(t *testing.T) {
	n := ready(t, usual(), 4)
	data(t, n, "a", "b", "c")
	goes(t, n, "sd n0 d61", "sd n1 d62", "sd n2 d63")
	n.Receive(pdu.PDU{Kind: pdu.USTAT, MR: 4, List: []seq.Num{0, 3}})
	before := snap(n)
	clear(n.Vars().Send.Again)
	if snap(n) != before {
		t.Errorf("rule 5: Vars: %s", snap(n))
	}
	asked(t, n, event.Request{Kind: event.Release})
	c := n.Clone()
	l, _ := c.Request(event.Request{Kind: event.Retrieve})
	clear(l)
	asked(t, n, event.Request{Kind: event.Retrieve}, "retrieved 61", "retrieved 62", "retrieved 63")
}

// P1: of units that may not be nothing is promised but that each call ends, and none panics.
func TestStrange(t *testing.T) {
	d := dice(5)
	odd := []int{math.MinInt, -1, 0, 1, 256, math.MaxInt}
	far := []seq.Num{0, 1, 4, top, api.Modulus, math.MaxUint32}
	for range 300 {
		n := ready(t, usual(), 4)
		for range 30 {
			u := pdu.PDU{
				Kind: d.below(19) - 2, SQ: odd[d.below(6)], N: far[d.below(6)], PS: far[d.below(6)], MR: far[d.below(6)],
				Self: d.below(2) == 0, Data: strings.Repeat("d", d.below(3)*150),
			}
			for range d.below(4) * 50 {
				u.List = append(u.List, far[d.below(6)])
			}
			n.Receive(u)
			n.Request(event.Request{Kind: odd[d.below(6)], N: odd[d.below(6)]})
			n.Request(event.Request{Kind: 1 + d.below(11), N: 1})
			n.Tick()
			n.Next()
			n.Garbled()
			n.Quiet()
			n.Safe()
			n.Vars()
		}
	}
}

// P16.1: the timers' places in Vars are those of the timers' own numbers.
func TestTimers(t *testing.T) {
	n := ready(t, usual(), 4)
	v := n.Vars().Timers
	if v[timer.Poll] != 3 || v[timer.Silent] != 12 || v[timer.CC]+v[timer.Keep]+v[timer.Idle] != 0 {
		t.Errorf("P16.1: the timers: %v", v)
	}
}
