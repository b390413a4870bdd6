package link

import (
	"fmt"
	"slices"
	"testing"

	"polliwog/api"
	"polliwog/event"
	"polliwog/node"
	"polliwog/pdu"
	"polliwog/pipe"
	"polliwog/rules"
	"polliwog/seq"
	"polliwog/wire"
)

// model is a link as the chapter's words say it: two ends, and units in lists, with no frames.
type model struct {
	ends [2]*node.Node
	ways [2][]pdu.PDU // to each end
	room int
	l    []Record // of the last call
}

func newModel(t *testing.T, c Config) *model {
	t.Helper()
	m := &model{room: c.Room}
	for end := range 2 {
		n, code := node.New(c.Ends[end])
		if code != api.OK {
			t.Fatalf("P18.1: a model of %+v: code %d", c, code)
		}
		m.ends[end] = n
	}
	return m
}

func (m *model) told(end int, l []event.Signal) {
	for _, s := range l {
		m.l = append(m.l, Record{End: end, Kind: 5, Signal: s})
	}
}

// out lets go out what does, and answers the records of the call.
func (m *model) out() []Record {
	for end := range 2 {
		way := &m.ways[1-end]
		for len(*way) < m.room {
			u, is := m.ends[end].Next()
			if !is {
				break
			}
			*way = append(*way, u)
			m.l = append(m.l, Record{End: end, Kind: 1, Unit: u})
		}
	}
	l := m.l
	m.l = nil
	return l
}

func (m *model) request(end int, r event.Request) ([]Record, api.Errno) {
	l, code := m.ends[end].Request(r)
	if code != api.OK {
		return nil, code
	}
	m.l = append(m.l, Record{End: end, Kind: 6, Request: r})
	m.told(end, l)
	return m.out(), api.OK
}

func (m *model) tick() []Record {
	m.told(0, m.ends[0].Tick())
	m.told(1, m.ends[1].Tick())
	return m.out()
}

// come lets a unit come, or what is none, if it is garbled.
func (m *model) come(end int, u pdu.PDU, garbled bool) []Record {
	if garbled {
		m.l = append(m.l, Record{End: end, Kind: 3}, Record{End: end, Kind: 5, Signal: event.Signal{Kind: event.Report, Code: 'U'}})
		return m.out()
	}
	m.l = append(m.l, Record{End: end, Kind: 2, Unit: u})
	m.told(end, m.ends[end].Receive(u))
	return m.out()
}

// carry takes the first unit to an end; turned: of its frame bits were turned.
func (m *model) carry(end int, lost, turned bool) []Record {
	u := m.ways[end][0]
	m.ways[end] = m.ways[end][1:]
	if lost {
		m.l = append(m.l, Record{End: end, Kind: 4})
		return m.out()
	}
	return m.come(end, u, turned)
}

// turns asks whether a choice turns a bit of a frame of so many bytes.
func turns(c pipe.Choice, size int) bool {
	for i := range 32 {
		if at := c.At + 31 - i; c.Mask>>i&1 == 1 && 0 <= at && at < 8*size {
			return true
		}
	}
	return false
}

// both is a link, and a model of it, on which the same is done.
type both struct {
	t *testing.T
	*Link
	m    *model
	wire *wire.Wire
}

func newBoth(t *testing.T, c Config) *both {
	t.Helper()
	return &both{t: t, Link: made(t, c), m: newModel(t, c), wire: wire.New()}
}

// same asks whether a call told the same, and left the same.
func (b *both) same(got, want []Record) []Record {
	b.t.Helper()
	if lines(got) != lines(want) {
		b.t.Fatalf("P18.1:\n%s, not\n%s", lines(got), lines(want))
	}
	quiet := true
	for end := range 2 {
		n := b.m.ends[end]
		quiet = quiet && len(b.m.ways[end]) == 0 && n.Quiet()
		if got, want := fmt.Sprintf("%+v", b.Node(end).Vars()), fmt.Sprintf("%+v", n.Vars()); got != want {
			b.t.Fatalf("P18.1: end %d: %s, not %s", end, got, want)
		}
		var frames []string
		for _, u := range b.m.ways[end] {
			s, code := b.wire.Pack(u)
			if code != api.OK {
				b.t.Fatalf("P16.3: %+v goes out", u)
			}
			frames = append(frames, s)
		}
		if p := b.Pipe(end); !slices.Equal(p.All(), frames) || p.Room() != b.m.room-len(frames) {
			b.t.Fatalf("P18.2: to end %d: %q, not %q", end, p.All(), frames)
		}
	}
	if b.Quiet() != quiet {
		b.t.Fatalf("P18.1: Quiet: %t", !quiet)
	}
	return got
}

func (b *both) ask(end int, r event.Request) []Record {
	b.t.Helper()
	got, code := b.Request(end, r)
	want, wantCode := b.m.request(end, r)
	if code != wantCode || code != api.OK && got != nil {
		b.t.Fatalf("P18.1: Request %+v: code %d, not %d; %s", r, code, wantCode, lines(got))
	}
	return b.same(got, want)
}

func (b *both) tick() []Record {
	b.t.Helper()
	return b.same(b.Tick(), b.m.tick())
}

func (b *both) carry(end int, c pipe.Choice) []Record {
	b.t.Helper()
	way := b.m.ways[end]
	got, is := b.Carry(end, c)
	if is != (len(way) > 0) {
		b.t.Fatalf("P18.1: Carry to %d: %t, of %d", end, is, len(way))
	}
	if !is {
		return b.same(got, nil)
	}
	return b.same(got, b.m.carry(end, c.Kind == pipe.Lose, c.Kind == pipe.Spoil && turns(c, wire.Size(way[0]))))
}

func (b *both) bring(end int, frame string) []Record {
	b.t.Helper()
	u, code := b.wire.Open(frame)
	return b.same(b.Bring(end, frame), b.m.come(end, u, code != api.OK))
}

// answer is what an end's user answers in a state; 0: nothing is to be answered.
func answer(state int) int {
	switch state {
	case rules.Incoming:
		return event.Accept
	case rules.Resynced:
		return event.Resynced
	case rules.Answered, rules.Recovered:
		return event.Recovered
	}
	return 0
}

// deed is something that happens to a link; the zero one is nothing.
type deed struct {
	what, end int
	request   event.Request
	choice    pipe.Choice
}

// What is done.
const (
	asks = 1 + iota
	ticked
	carries
)

// on does a deed on a link.
func (x deed) on(l *Link) []Record {
	var records []Record
	switch x.what {
	case asks:
		records, _ = l.Request(x.end, x.request)
	case ticked:
		records = l.Tick()
	case carries:
		records, _ = l.Carry(x.end, x.choice)
	}
	return records
}

// on does a deed on both.
func (b *both) on(x deed) []Record {
	b.t.Helper()
	switch x.what {
	case asks:
		return b.ask(x.end, x.request)
	case ticked:
		return b.tick()
	case carries:
		return b.carry(x.end, x.choice)
	}
	return nil
}

// deed throws what happens next to a link to which nothing is Brought, and of which one end alone asks to Establish: harm times in a hundred a frame doesn't come as it is, again times in a thousand a user wants it otherwise.
func (d *dice) deed(l *Link, by, harm, again, number int) deed {
	end := d.below(2)
	state := l.Node(end).Vars().Conn.State
	ask := func(r event.Request) deed { return deed{what: asks, end: end, request: r} }
	if d.below(1000) < again {
		return ask(event.Request{Kind: []int{event.Resync, event.Release}[d.below(2)], Data: fmt.Sprint(number)})
	}
	switch x := d.below(100); {
	case x < 50:
		return deed{what: carries, end: end, choice: d.choice(harm)}
	case x < 60:
		return deed{what: ticked}
	case x < 82:
		return ask(event.Request{Kind: event.Data, Data: fmt.Sprint(number)})
	case x < 90:
		return ask(event.Request{Kind: event.Take, N: 1 + d.below(4)})
	case x < 92:
		return ask(event.Request{Kind: event.Unit + d.below(2), Data: "u"})
	case x < 93:
		return ask(event.Request{Kind: event.Retrieve})
	case answer(state) > 0:
		return ask(event.Request{Kind: answer(state)})
	case end == by && rules.May(state, event.Establish):
		return ask(event.Request{Kind: event.Establish})
	}
	return deed{}
}

// unitFrom throws a unit that may be, near to numbers of an end.
func (d *dice) unitFrom(v node.Vars) pdu.PDU {
	near := func(l ...seq.Num) seq.Num { return l[d.below(len(l))].Add(d.below(5) - 2) }
	sq := func() int { return []int{v.Conn.SQ, max(v.Conn.Peer, 0), d.below(256)}[d.below(3)] }
	u := pdu.PDU{Kind: 1 + d.below(15)}
	switch u.Kind {
	case pdu.BGN, pdu.RS, pdu.BGREJ, pdu.END:
		u.Data = fmt.Sprint(d.below(9))
		fallthrough
	case pdu.BGAK, pdu.RSAK, pdu.ER, pdu.ERAK, pdu.ENDAK:
		u.SQ = sq()
		u.Self = u.Kind == pdu.END && d.below(2) == 0
		if u.Kind != pdu.BGREJ && u.Kind != pdu.END && u.Kind != pdu.ENDAK {
			u.N = near(v.Conn.MS, v.Send.MS)
		}
	case pdu.SD:
		u.N, u.Data = near(v.Recv.R, v.Recv.H, v.Recv.MR), fmt.Sprint(d.below(99))
	case pdu.POLL:
		u.N, u.PS = near(v.Recv.H, v.Recv.MR), near(v.Send.PS)
	case pdu.STAT, pdu.USTAT:
		u.N, u.MR = near(v.Send.A, v.Send.S), near(v.Send.MS, v.Send.S)
		u.List = []seq.Num{u.N.Add(d.below(3)), u.N.Add(1 + d.below(3))}
		if u.Kind == pdu.STAT {
			u.PS, u.List = near(v.Send.PS, v.Send.PA), u.List[:2*d.below(2)]
		}
	case pdu.UD, pdu.MD:
		u.Data = "u"
	}
	return u
}

// frameTo throws a frame that somebody Brings: of a unit, maybe spoilt, or of anything.
func (b *both) frameTo(end int, d *dice) string {
	b.t.Helper()
	s := pack(b.t, d.unitFrom(b.Node(end).Vars()))
	switch d.below(10) {
	case 0:
		b := []byte(s)
		for range d.below(5) {
			b[d.below(len(b))] ^= byte(d.below(256))
		}
		return string(b)
	case 1:
		return s[d.below(len(s)):]
	}
	return s
}

// P18.1: any calls, one behind the other, also of frames that are Brought, held against the model.
func TestAnyCalls(t *testing.T) {
	kinds := [7]int{}
	for round := range 500 {
		d := dice(round)
		b := newBoth(t, d.config())
		harm, again, brings := d.below(60), d.below(80), d.below(30)
		for i := range 300 {
			var l []Record
			switch {
			case d.below(100) < brings:
				end := d.below(2)
				l = b.bring(end, b.frameTo(end, &d))
			case d.below(100) < 10:
				l = b.ask(d.below(2), event.Request{Kind: d.below(14) - 1, Data: "data"[d.below(5):], N: d.below(3) * d.below(40)})
			case d.below(100) < 2:
				b.Link = b.Clone()
			default:
				l = b.on(d.deed(b.Link, round%2, harm, again, i))
			}
			for _, r := range l {
				kinds[r.Kind]++
			}
		}
	}
	for kind, n := range kinds {
		if kind > 0 && n < 3000 {
			t.Errorf("P18.1: of kind %d %d records alone", kind, n)
		}
	}
}

// P18.2: what comes to an end are frames that went into the pipe to it, in their order, each at most once.
func TestOrder(t *testing.T) {
	came, harmed := 0, 0
	for round := range 600 {
		d := dice(round + 3)
		l := made(t, d.config())
		harm, again := []int{0, 10, 50, 90}[d.below(4)], []int{0, 10, 60}[d.below(3)]
		var ways [2][]string // what is told to each end, and didn't come yet
		for i := range 400 {
			for _, r := range d.deed(l, round%2, harm, again, i).on(l) {
				switch r.Kind {
				case Sent:
					ways[1-r.End] = append(ways[1-r.End], unit(r.Unit))
				case Came:
					if len(ways[r.End]) == 0 || ways[r.End][0] != unit(r.Unit) {
						t.Fatalf("P18.2: %s came to end %d, not %q", unit(r.Unit), r.End, ways[r.End])
					}
					ways[r.End] = ways[r.End][1:]
					came++
				case Garbled, Lost:
					if len(ways[r.End]) == 0 {
						t.Fatalf("P18.2: %s, and nothing was on its way", line(r))
					}
					ways[r.End] = ways[r.End][1:]
					harmed++
				}
			}
		}
	}
	if came < 10000 || harmed < 5000 {
		t.Errorf("P18.2: %d came, %d didn't alone", came, harmed)
	}
}

// epoch is what a user asked to send, and what came, from one beginning of its end to the next one.
type epoch struct{ sent, got []string }

// books has the epochs of both ends, as records tell them.
type books struct {
	of      [2][]*epoch
	begun   int          // how many BGN, RS and ER went out
	letters map[byte]int // how often a Report was told
}

// add takes the records of a call.
func (b *books) add(t *testing.T, l []Record) {
	t.Helper()
	for _, r := range l {
		begins := false
		switch r.Kind {
		case Sent:
			if slices.Contains([]int{pdu.BGN, pdu.RS, pdu.ER}, r.Unit.Kind) {
				b.begun++
			}
		case Asked:
			begins = slices.Contains([]int{event.Accept, event.Resynced, event.Recovered}, r.Request.Kind)
		case Told:
			begins = r.Signal.Kind == event.EstablishConf || r.Signal.Kind == event.ResyncConf
			if r.Signal.Kind == event.Report {
				b.letters[r.Signal.Code]++
			}
		}
		if begins {
			b.of[r.End] = append(b.of[r.End], &epoch{})
		}
		sends, gets := r.Kind == Asked && r.Request.Kind == event.Data, r.Kind == Told && r.Signal.Kind == event.DataInd
		if !sends && !gets {
			continue
		}
		all := b.of[r.End]
		if len(all) == 0 {
			t.Fatalf("P18.3: %s, ahead of the first epoch", line(r))
		}
		last := all[len(all)-1]
		if sends {
			last.sent = append(last.sent, r.Request.Data)
		} else {
			last.got = append(last.got, r.Signal.Data)
		}
	}
}

// sound asks that each epoch's messages are the first ones of an epoch of the other end, a later one's of a later one's.
func (b *books) sound(t *testing.T) {
	t.Helper()
	for end, all := range b.of {
		from := b.of[1-end]
		for i, x := range all {
			if len(x.got) == 0 {
				continue
			}
			at := slices.IndexFunc(from, func(y *epoch) bool { return len(x.got) <= len(y.sent) && slices.Equal(x.got, y.sent[:len(x.got)]) })
			if at < 0 {
				t.Fatalf("P18.3: end %d was told %v in its epoch %d", end, x.got, i)
			}
			from = from[at+1:]
		}
	}
	for _, code := range []byte("QRST") {
		if b.letters[code] > 0 {
			t.Fatalf("P18.3: %c was told", code)
		}
	}
}

// P18.3: whatever is lost, spoilt and asked, no end is told of Q, R, S or T, and what an end is told in an epoch is the beginning of what the other one sent in one.
func TestEpochs(t *testing.T) {
	told, epochs, letters := 0, 0, map[byte]int{}
	for round := range 1500 {
		d := dice(round + 11)
		l := made(t, d.config())
		book := books{letters: map[byte]int{}}
		harm, again := []int{0, 5, 15, 40}[d.below(4)], []int{0, 2, 10, 40}[d.below(4)]
		for i := 0; i < 1000 && book.begun < 190; i++ {
			book.add(t, d.deed(l, round%2, harm, again, i).on(l))
		}
		book.sound(t)
		for _, all := range book.of {
			epochs += len(all)
			for _, x := range all {
				told += len(x.got)
			}
		}
		for code, n := range book.letters {
			letters[code] += n
		}
	}
	for _, code := range []byte("OPUVWX") {
		if letters[code] < 500 {
			t.Errorf("P18.3: %c was told %d times alone", code, letters[code])
		}
	}
	if told < 20000 || epochs < 5000 {
		t.Errorf("P18.3: %d messages, %d epochs alone", told, epochs)
	}
}
