package link

import (
	"fmt"
	"slices"
	"strings"
	"testing"

	"polliwog/api"
	"polliwog/event"
	"polliwog/node"
	"polliwog/pace"
	"polliwog/pdu"
	"polliwog/pipe"
	"polliwog/seq"
	"polliwog/wire"
)

// ticks has timers of a usual end.
func ticks() pace.Config {
	return pace.Config{CC: 4, Poll: 3, Keep: 6, Silent: 12, Idle: 5}
}

// usual is a config with these windows, Queue, Polls, Room and Start.
func usual(a, b, queue, polls, room int, start seq.Num) Config {
	end := func(window int) node.Config {
		return node.Config{Most: 3, Window: window, Queue: queue, Units: 8, Polls: polls, Start: start, Pace: ticks()}
	}
	return Config{Ends: [2]node.Config{end(a), end(b)}, Room: room}
}

// made answers a link that may be.
func made(t *testing.T, c Config) *Link {
	t.Helper()
	l, code := New(c)
	if code != api.OK || l == nil {
		t.Fatalf("P18.1: New of %+v: code %d", c, code)
	}
	return l
}

// unit is a unit's name, and each of its fields that isn't zero.
func unit(u pdu.PDU) string {
	s := u.Name()
	for _, x := range []struct {
		name string
		n    int
	}{{"sq", u.SQ}, {"n", int(u.N)}, {"ps", int(u.PS)}, {"mr", int(u.MR)}} {
		if x.n != 0 {
			s += fmt.Sprint(" ", x.name, x.n)
		}
	}
	if u.Self {
		s += " self"
	}
	if len(u.List) > 0 {
		s += fmt.Sprint(" ", u.List)
	}
	if u.Data != "" {
		s += fmt.Sprintf(" %q", u.Data)
	}
	return s
}

// line is a record's mark, and whatever of it isn't zero.
func line(r Record) string {
	mark, is := map[int]string{Sent: ">", Came: "<", Garbled: "#", Lost: "x", Told: ":", Asked: "?"}[r.Kind]
	if !is {
		mark = fmt.Sprint("kind ", r.Kind)
	}
	l := []string{fmt.Sprint(r.End), mark}
	if s := unit(r.Unit); s != "" {
		l = append(l, s)
	}
	if r.Signal != (event.Signal{}) {
		l = append(l, r.Signal.Text())
	}
	if r.Request != (event.Request{}) {
		l = append(l, fmt.Sprint(r.Request.Kind))
		if r.Request.Data != "" {
			l = append(l, fmt.Sprintf("%q", r.Request.Data))
		}
		if r.Request.N != 0 {
			l = append(l, fmt.Sprint(r.Request.N))
		}
	}
	return strings.Join(l, " ")
}

// lines is what records tell; . of none.
func lines(records []Record) string {
	var l []string
	for _, r := range records {
		l = append(l, line(r))
	}
	if l == nil {
		return "."
	}
	return strings.Join(l, "; ")
}

// play is a link on which steps are done, each of which answers what it tells.
type play struct {
	*Link
	t *testing.T
}

func begin(t *testing.T, c Config) play {
	t.Helper()
	return play{Link: made(t, c), t: t}
}

func (p play) ask(end, kind int, data string) string {
	return p.request(end, event.Request{Kind: kind, Data: data})
}

func (p play) take(end, n int) string {
	return p.request(end, event.Request{Kind: event.Take, N: n})
}

func (p play) request(end int, r event.Request) string {
	p.t.Helper()
	records, code := p.Request(end, r)
	if code != api.OK {
		if records != nil {
			p.t.Errorf("rule 3: Request %+v: code %d, and %s", r, code, lines(records))
		}
		return fmt.Sprint("code ", code)
	}
	return lines(records)
}

// tick lets so many ticks go by.
func (p play) tick(n int) string {
	var all []Record
	for range n {
		all = append(all, p.Tick()...)
	}
	return lines(all)
}

func (p play) carry(end int) string { return p.choose(end, pipe.Choice{Kind: pipe.Carry}) }
func (p play) lose(end int) string  { return p.choose(end, pipe.Choice{Kind: pipe.Lose}) }

func (p play) spoil(end, at int, mask uint32) string {
	return p.choose(end, pipe.Choice{Kind: pipe.Spoil, At: at, Mask: mask})
}

func (p play) choose(end int, c pipe.Choice) string {
	p.t.Helper()
	records, is := p.Carry(end, c)
	if !is {
		if records != nil {
			p.t.Errorf("rule 3: Carry to %d: none, and %s", end, lines(records))
		}
		return "none"
	}
	return lines(records)
}

// bring lets a unit come to an end, whoever sent it.
func (p play) bring(end int, u pdu.PDU) string {
	p.t.Helper()
	return lines(p.Bring(end, pack(p.t, u)))
}

// pack answers the frame of a unit that may be.
func pack(t *testing.T, u pdu.PDU) string {
	t.Helper()
	s, code := wire.New().Pack(u)
	if code != api.OK {
		t.Fatalf("a unit that may not be: %+v", u)
	}
	return s
}

// want asks for what a step tells.
func (p play) want(got, want string) {
	p.t.Helper()
	if got != want {
		p.t.Fatalf("P18.1:\n%s, not\n%s", got, want)
	}
}

// establish brings both ends to Ready, with nothing on its way; end 0 asks.
func (p play) establish() {
	p.t.Helper()
	p.ask(0, event.Establish, "")
	p.carry(1)
	p.ask(1, event.Accept, "")
	if got := p.carry(0); !strings.HasPrefix(got, "0 < bgak") || p.Pipe(1).Len() > 0 {
		p.t.Fatalf("P18.1: %s", got)
	}
}

// snap is all that can be told of a link by looking at it.
func snap(l *Link) string {
	s := fmt.Sprint(l.Quiet())
	for end := range 2 {
		n, p := l.Node(end), l.Pipe(end)
		a, b, c := p.Counts()
		s += fmt.Sprintf("; %+v %t %t %d %d %d %q %d", n.Vars(), n.Safe(), n.Quiet(), a, b, c, p.All(), p.Room())
	}
	return s
}

// dice throws numbers that are alike each time.
type dice uint64

// below throws a number from 0 on, below n.
func (d *dice) below(n int) int {
	*d = *d*6364136223846793005 + 1442695040888963407
	return int(uint64(*d)>>33) % n
}

// config throws a config, of windows, rows and pipes that are soon full.
func (d *dice) config() Config {
	start := []seq.Num{0, api.Modulus - 3, api.Half - 2, seq.Num(d.below(api.Modulus))}[d.below(4)]
	end := func() node.Config {
		silent := 4 + d.below(12)
		return node.Config{
			Most: 1 + d.below(4), Window: 1 + d.below(6), Queue: 1 + d.below(6), Units: 1 + d.below(3), Polls: 1 + d.below(6), Start: start,
			Pace: pace.Config{CC: 1 + d.below(5), Poll: 1 + d.below(silent-1), Keep: 1 + d.below(silent-1), Silent: silent, Idle: 1 + d.below(9)},
		}
	}
	return Config{Ends: [2]node.Config{end(), end()}, Room: 1 + d.below(8)}
}

// choice throws what becomes of a frame; harm times in a hundred it doesn't come as it is, or hardly.
func (d *dice) choice(harm int) pipe.Choice {
	if d.below(100) >= harm {
		return pipe.Choice{Kind: []int{pipe.Carry, 3, -1}[d.below(3)], At: d.below(400), Mask: uint32(d.below(1 << 31))}
	}
	mask := uint32(d.below(1<<31)) << d.below(3) >> d.below(32)
	return pipe.Choice{Kind: pipe.Lose + d.below(2), At: d.below(900) - 40, Mask: mask}
}

// odd has numbers that are no end's.
func odd() []int {
	const far = 1 << 32
	return slices.Concat([]int{-1, 2, 3, far, far + 1, -far}, []int{-1 << 63, 1<<63 - 1})
}
