package node

import (
	"fmt"
	"reflect"
	"slices"
	"testing"

	"polliwog/api"
	"polliwog/conn"
	"polliwog/event"
	"polliwog/pace"
	"polliwog/pdu"
	"polliwog/recv"
	"polliwog/rules"
	"polliwog/send"
	"polliwog/seq"
)

// model is an end as the chapter's words say it, of the layers below: rows are lists, and an epoch is a thing of its own.
type model struct {
	c              Config
	conn           *conn.Conn
	pace           *pace.Pace
	epoch          *half
	control, units []pdu.PDU
	left           []string
	lacks          bool
}

// half is an epoch at one end.
type half struct {
	send       *send.Send
	recv       *recv.Recv
	poll, stat bool // are due
	ps         seq.Num
}

func newModel(c Config) *model {
	p, _ := pace.New(c.Pace)
	return &model{
		c:    c,
		conn: conn.New(conn.Config{Most: c.Most, Credit: (c.Start + seq.Num(c.Window)) % api.Modulus}),
		pace: p,
	}
}

// brings is what a connection's Result brings.
func (m *model) brings(r conn.Result) []event.Signal {
	for _, u := range r.Units {
		m.control = slices.DeleteFunc(m.control, func(x pdu.PDU) bool { return x.Kind == u.Kind })
		m.control = append(m.control, u)
	}
	if r.Timer == conn.Starts {
		m.pace.Again()
	}
	if r.Timer == conn.Stops {
		m.pace.Enough()
	}
	if r.Ends {
		m.pace.End()
		m.left = m.epoch.send.Left()
		m.epoch = nil
	}
	if r.Begins {
		m.epoch = &half{send: send.New(m.c.Start, m.c.Queue, m.c.Polls), recv: recv.New(m.c.Start, m.c.Window)}
		m.epoch.send.Open(r.MS)
		m.pace.Begin()
	}
	return r.Signals
}

// behind is what is told of credit behind a call.
func (m *model) behind(l []event.Signal) []event.Signal {
	lacks := m.epoch != nil && m.epoch.send.Lacks()
	if lacks && !m.lacks {
		l = append(l, event.Signal{Kind: event.Report, Code: 'W'})
	}
	if !lacks && m.lacks && m.conn.Vars().State == rules.Ready {
		l = append(l, event.Signal{Kind: event.Report, Code: 'X'})
	}
	m.lacks = lacks
	return l
}

func (m *model) request(r event.Request) ([]event.Signal, api.Errno) {
	if code := r.Check(); code != api.OK {
		return nil, code
	}
	if !rules.May(m.conn.Vars().State, r.Kind) {
		return nil, api.ErrState
	}
	var l []event.Signal
	switch {
	case r.Kind <= event.Recovered:
		result, _ := m.conn.Request(r.Kind, r.Data)
		l = m.brings(result)
	case r.Kind == event.Data:
		if m.epoch.send.Put(r.Data) != api.OK {
			return nil, api.ErrFull
		}
		m.pace.Busy()
	case r.Kind == event.Unit || r.Kind == event.Manage:
		if len(m.units) == m.c.Units {
			return nil, api.ErrFull
		}
		m.units = append(m.units, pdu.PDU{Kind: r.Kind - event.Unit + pdu.UD, Data: r.Data})
	case r.Kind == event.Take:
		if m.epoch != nil {
			m.epoch.recv.Take(r.N)
		}
	case r.Kind == event.Retrieve:
		for _, x := range m.left {
			l = append(l, event.Signal{Kind: event.Retrieved, Data: x})
		}
		m.left = nil
	}
	return m.behind(l), api.OK
}

// failed is what a report that can't be brings, by its letter; of 0 it can be: so many numbers go again.
func (m *model) failed(letter byte, count int) []event.Signal {
	if letter != 0 {
		return m.brings(m.conn.Fail(letter))
	}
	if count > 0 {
		return []event.Signal{{Kind: event.Report, Code: 'V', N: count}}
	}
	return nil
}

func (m *model) receive(u pdu.PDU) []event.Signal {
	switch {
	case u.Kind == pdu.UD:
		return m.behind([]event.Signal{{Kind: event.UnitInd, Data: u.Data}})
	case u.Kind == pdu.MD:
		return m.behind([]event.Signal{{Kind: event.ManageInd, Data: u.Data}})
	case m.epoch != nil && slices.Contains([]int{pdu.SD, pdu.POLL, pdu.STAT, pdu.USTAT}, u.Kind):
		return m.behind(m.ready(u))
	}
	return m.behind(m.brings(m.conn.Receive(u)))
}

// ready is what is done in Ready alone.
func (m *model) ready(u pdu.PDU) []event.Signal {
	e := m.epoch
	switch u.Kind {
	case pdu.SD:
		var l []event.Signal
		for _, x := range e.recv.Data(u.N, u.Data) {
			l = append(l, event.Signal{Kind: event.DataInd, Data: x})
		}
		return l
	case pdu.POLL:
		if e.recv.Poll(u.N) != api.OK {
			return m.failed('Q', 0)
		}
		e.stat, e.ps = true, u.PS
		return nil
	case pdu.STAT:
		count, code := e.send.Stat(u.N, u.MR, u.PS, u.List)
		if code == api.OK {
			m.pace.Answered(e.send.Idle())
		}
		return m.failed(map[api.Errno]byte{api.ErrStat: 'R', api.ErrList: 'S'}[code], count)
	}
	count, code := e.send.Ustat(u.N, u.MR, u.List)
	if code != api.OK {
		return m.failed('T', 0)
	}
	return m.failed(0, count)
}

func (m *model) tick() []event.Signal {
	var l []event.Signal
	for _, t := range m.pace.Tick() {
		switch t {
		case 0:
			l = append(l, m.brings(m.conn.Expire())...)
		case 3:
			l = append(l, m.brings(m.conn.Silent())...)
		default:
			if m.epoch != nil {
				m.epoch.poll = true
			}
		}
	}
	return m.behind(l)
}

func (m *model) next() (pdu.PDU, bool) {
	if len(m.control) > 0 {
		u := m.control[0]
		m.control = m.control[1:]
		return u, true
	}
	if len(m.units) > 0 {
		u := m.units[0]
		m.units = m.units[1:]
		return u, true
	}
	e := m.epoch
	if e == nil {
		return pdu.PDU{}, false
	}
	if e.stat {
		l, r, mr := e.recv.Stat()
		e.stat = false
		return pdu.PDU{Kind: pdu.STAT, List: l, N: r, MR: mr, PS: e.ps}, true
	}
	if l, r, mr, ok := e.recv.Gap(); ok {
		return pdu.PDU{Kind: pdu.USTAT, List: l, N: r, MR: mr}, true
	}
	if e.poll || e.send.Due() {
		e.poll = false
		ps, s := e.send.Poll()
		m.pace.Polled(e.send.Idle())
		return pdu.PDU{Kind: pdu.POLL, N: s, PS: ps}, true
	}
	if n, x, _, ok := e.send.Next(); ok {
		return pdu.PDU{Kind: pdu.SD, N: n, Data: x}, true
	}
	return pdu.PDU{}, false
}

func (m *model) vars() Vars {
	v := Vars{Conn: m.conn.Vars(), Control: len(m.control), Units: len(m.units), Left: len(m.left), Lacks: m.lacks}
	if e := m.epoch; e != nil {
		v.Send, v.Recv, v.PollDue, v.StatDue = e.send.Vars(), e.recv.Vars(), e.poll, e.stat
	}
	for t := range 5 {
		v.Timers[t] = m.pace.Left(t)
	}
	return v
}

func (m *model) quiet() bool {
	v := m.vars()
	waits := v.Control + v.Units + v.Recv.Gaps + v.Send.Queued + v.Send.Kept
	return waits == 0 && !v.PollDue && !v.StatDue
}

// alike asks whether two ends have the same numbers; a list may be nil.
func alike(a, b Vars) bool {
	if !slices.Equal(a.Send.Again, b.Send.Again) {
		return false
	}
	a.Send.Again, b.Send.Again = nil, nil
	return reflect.DeepEqual(a, b)
}

// held holds an end against the model, by each call that changes nothing.
func held(t *testing.T, what string, n *Node, m *model) {
	t.Helper()
	if got, want := n.Vars(), m.vars(); !alike(got, want) {
		t.Fatalf("%s:\n%+v, not\n%+v", what, got, want)
	}
	if n.Quiet() != m.quiet() || n.Safe() != m.pace.Safe() {
		t.Fatalf("%s: Quiet %t, Safe %t: %+v", what, n.Quiet(), n.Safe(), m.vars())
	}
	bounds(t, n)
}

// both is an end, and the model of it.
type both struct {
	t *testing.T
	n *Node
	m *model
}

// told asks that an end told what the model told.
func (b both) told(what string, got, want []event.Signal) {
	b.t.Helper()
	if !slices.Equal(got, want) {
		b.t.Fatalf("%s: %v, not %v", what, got, want)
	}
	held(b.t, what, b.n, b.m)
}

func (b both) request(r event.Request) {
	b.t.Helper()
	before := snap(b.n)
	what := fmt.Sprintf("P16.1: Request %d, %d bytes, %d", r.Kind, len(r.Data), r.N)
	got, code := b.n.Request(r)
	want, wanted := b.m.request(r)
	if code != wanted {
		b.t.Fatalf("%s: code %d, not %d", what, code, wanted)
	}
	if code != api.OK && snap(b.n) != before {
		b.t.Fatalf("P16.2: %s: code %d:\n%s, not\n%s", what, code, snap(b.n), before)
	}
	b.told(what, got, want)
}

func (b both) receive(u pdu.PDU) {
	b.t.Helper()
	list := slices.Clone(u.List)
	b.told(fmt.Sprintf("P16.1: Receive %+v", u), b.n.Receive(u), b.m.receive(u))
	if !slices.Equal(u.List, list) {
		b.t.Fatalf("rule 5: a List is changed: %v, not %v", u.List, list)
	}
	// What was handed in isn't kept.
	clear(u.List)
	held(b.t, "rule 5", b.n, b.m)
}

func (b both) tick() {
	b.t.Helper()
	b.told("P16.1: Tick", b.n.Tick(), b.m.tick())
}

func (b both) next() {
	b.t.Helper()
	got, ok := b.n.Next()
	want, is := b.m.next()
	if ok != is || !same(got, want) || got.SQ != want.SQ || got.N != want.N || got.PS != want.PS || got.MR != want.MR {
		b.t.Fatalf("P16.1: Next: %+v, %t, not %+v, %t", got, ok, want, is)
	}
	if ok && got.Check() != api.OK {
		b.t.Fatalf("P16.3: Next: %+v", got)
	}
	clear(got.List)
	held(b.t, fmt.Sprintf("P16.1: Next: %+v", got), b.n, b.m)
}

// snap is all that a later call could tell of an end.
func snap(n *Node) string {
	s := fmt.Sprintf("%+v %+v %+v %q %d", n.Vars(), n.control.All(), n.units.All(), n.left, n.statFor)
	if n.send != nil {
		s += fmt.Sprintf(" %q", n.send.Left())
	}
	return s
}

// near throws a number near those at which something turns.
func (d *dice) near(v Vars) seq.Num {
	l := []seq.Num{v.Send.A, v.Send.S, v.Send.MS, v.Recv.R, v.Recv.H, v.Recv.MR, v.Send.PS, v.Send.PA}
	n := l[d.below(len(l))].Add(d.below(5) - 2)
	if d.below(30) == 0 {
		n = seq.Num(d.below(api.Modulus))
	}
	return n
}

// unit throws a unit that may be, though no other end might tell it; good: rather one that it would.
func (d *dice) unit(v Vars, good bool) pdu.PDU {
	sq := []int{v.Conn.SQ, max(v.Conn.Peer, 0), (v.Conn.Peer + 1) % 256, d.below(256)}[d.below(4)]
	u := pdu.PDU{Kind: pdu.BGN + d.below(15)}
	switch u.Kind {
	case pdu.BGN, pdu.RS:
		u.SQ, u.N, u.Data = sq, d.near(v), "d"
	case pdu.BGAK, pdu.RSAK, pdu.ER, pdu.ERAK:
		u.SQ, u.N = sq, d.near(v)
	case pdu.BGREJ, pdu.END:
		u.SQ, u.Data, u.Self = sq, "e", u.Kind == pdu.END && d.below(2) == 0
	case pdu.ENDAK:
		u.SQ = sq
	case pdu.SD:
		u.N, u.Data = d.near(v), fmt.Sprint(d.below(1000))
	case pdu.UD, pdu.MD:
		u.Data = "u"
	case pdu.POLL:
		u.N, u.PS = d.near(v), d.near(v)
		if good {
			u.N = v.Recv.H
		}
	case pdu.STAT, pdu.USTAT:
		u.N, u.MR, u.PS = d.near(v), d.near(v), d.near(v)
		if good {
			u.N, u.MR, u.PS = v.Send.A, v.Send.S.Add(d.below(4)), v.Send.PS
		}
		for u.Kind == pdu.STAT && len(u.List) < 4 && d.below(2) == 0 || u.Kind == pdu.USTAT && len(u.List) == 0 {
			a := u.N.Add(len(u.List) + d.below(2))
			u.List = append(u.List, a, a.Add(1+d.below(2)))
		}
		if u.Kind == pdu.USTAT {
			u.PS = 0
		}
	}
	return u
}

// request throws a request, rather one that may be made.
func (d *dice) request(state int) event.Request {
	if answer(state) > 0 && d.below(2) == 0 {
		return event.Request{Kind: answer(state)}
	}
	r := event.Request{Kind: 1 + d.below(11)}
	switch r.Kind {
	case event.Release, event.Resync:
		// Seldom, as they end all else.
		if d.below(4) > 0 {
			r.Kind = event.Data
		}
	case event.Take:
		r.N = 1 + d.below(4)
	}
	switch d.below(40) {
	case 0:
		r.Kind = []int{-1, 0, 12, 1 << 40}[d.below(4)]
	case 1:
		r.N = d.below(70)
	case 2:
		r.Data = string(make([]byte, []int{64, 65, 200, 201}[d.below(4)]))
	}
	return r
}

// P16.1: behind any calls, held against the model, also of units that no other end would tell.
func TestAnyCalls(t *testing.T) {
	ready := 0
	for round := range 1500 {
		d := dice(round + 1)
		start := []seq.Num{0, api.Modulus - 2, seq.Num(d.below(api.Modulus))}[d.below(3)]
		c := d.config(start)
		b := both{t: t, n: made(t, c), m: newModel(c)}
		held(t, "P16.1: new", b.n, b.m)
		strange := d.below(3)
		for range 300 {
			v := b.n.Vars()
			if v.Conn.State == rules.Ready {
				ready++
			}
			switch x := d.below(10); {
			case x < 3:
				b.request(d.request(v.Conn.State))
			case x < 5:
				u := d.unit(v, d.below(8) >= strange)
				if v.Conn.State == rules.Ready && u.SQ > 0 && d.below(3) > 0 {
					continue
				}
				b.receive(u)
			case x < 6:
				b.tick()
			default:
				b.next()
			}
			if d.below(20) == 0 {
				b.n = b.n.Clone()
				held(t, "P16.1: a clone", b.n, b.m)
			}
		}
	}
	if ready < 50000 {
		t.Errorf("P16.1: %d calls in Ready alone", ready)
	}
}
