package node

import (
	"fmt"
	"slices"
	"strings"
	"testing"

	"polliwog/api"
	"polliwog/event"
	"polliwog/pace"
	"polliwog/pdu"
	"polliwog/rules"
	"polliwog/seq"
)

// two is two ends, and a way from each to the other one, on which units come in order, or are lost.
type two struct {
	t     *testing.T
	ends  [2]*Node
	ways  [2][]pdu.PDU // to each of them
	room  int          // units on a way at once
	said  []string     // what the last call told
	books [2][]*epoch
	begun int // how many BGN, RS and ER went out
}

// epoch is what a user asked to send, and what came, from one beginning to the next one.
type epoch struct{ sent, got []string }

// ticks has timers of a usual end.
func ticks() pace.Config {
	return pace.Config{CC: 4, Poll: 3, Keep: 6, Silent: 12, Idle: 5}
}

func newTwo(t *testing.T, room int, a, b Config) *two {
	t.Helper()
	return &two{t: t, ends: [2]*Node{made(t, a), made(t, b)}, room: room}
}

// made answers an end that may be.
func made(t *testing.T, c Config) *Node {
	t.Helper()
	n, code := New(c)
	if code != api.OK || n == nil {
		t.Fatalf("P16.1: New of %+v: code %d", c, code)
	}
	return n
}

// text is a unit as it is told.
func text(u pdu.PDU) string {
	var l []string
	for _, x := range u.List {
		l = append(l, fmt.Sprint(x))
	}
	list := strings.Join(l, ",")
	if list == "" {
		list = "-"
	}
	s := u.Name()
	switch u.Kind {
	case pdu.BGN, pdu.RS:
		return fmt.Sprintf("%s sq%d n%d d%s", s, u.SQ, u.N, event.Hex(u.Data))
	case pdu.BGAK, pdu.RSAK, pdu.ER, pdu.ERAK:
		return fmt.Sprintf("%s sq%d n%d", s, u.SQ, u.N)
	case pdu.BGREJ:
		return fmt.Sprintf("%s sq%d d%s", s, u.SQ, event.Hex(u.Data))
	case pdu.END:
		if u.Self {
			return fmt.Sprintf("%s sq%d self d%s", s, u.SQ, event.Hex(u.Data))
		}
		return fmt.Sprintf("%s sq%d d%s", s, u.SQ, event.Hex(u.Data))
	case pdu.ENDAK:
		return fmt.Sprintf("%s sq%d", s, u.SQ)
	case pdu.SD:
		return fmt.Sprintf("%s n%d d%s", s, u.N, event.Hex(u.Data))
	case pdu.POLL:
		return fmt.Sprintf("%s n%d ps%d", s, u.N, u.PS)
	case pdu.STAT:
		return fmt.Sprintf("%s n%d ps%d mr%d l%s", s, u.N, u.PS, u.MR, list)
	case pdu.USTAT:
		return fmt.Sprintf("%s n%d mr%d l%s", s, u.N, u.MR, list)
	}
	return fmt.Sprintf("%s d%s", s, event.Hex(u.Data))
}

func (p *two) say(end int, what string) {
	p.said = append(p.said, fmt.Sprint(end, " ", what))
}

// tell takes what an end's user is told.
func (p *two) tell(end int, l []event.Signal) {
	for _, s := range l {
		p.say(end, ": "+s.Text())
		switch s.Kind {
		case event.EstablishConf, event.ResyncConf:
			p.books[end] = append(p.books[end], &epoch{})
		case event.DataInd:
			last := p.books[end][len(p.books[end])-1]
			last.got = append(last.got, s.Data)
		}
	}
}

// flush lets all that goes out go into the ways, as far as there is room.
func (p *two) flush() {
	p.t.Helper()
	for e, n := range p.ends {
		for len(p.ways[1-e]) < p.room {
			before := n.Vars()
			u, ok := n.Next()
			if !ok {
				if !same(u, pdu.PDU{}) {
					p.t.Fatalf("rule 3: Next: none, and %+v", u)
				}
				break
			}
			p.look(n, u, before)
			p.ways[1-e] = append(p.ways[1-e], u)
			p.say(e, "> "+text(u))
		}
		bounds(p.t, n)
	}
}

// look asks of a unit that goes out what the promises say.
func (p *two) look(n *Node, u pdu.PDU, before Vars) {
	p.t.Helper()
	if u.Check() != api.OK {
		p.t.Fatalf("P16.3: %+v goes out", u)
	}
	switch u.Kind {
	case pdu.BGN, pdu.RS, pdu.ER:
		p.begun++
	case pdu.SD:
		if u.N == before.Send.S && !seq.Between(before.Send.A, u.N, before.Send.MS) {
			p.t.Fatalf("P16.5: %+v goes out, and may not: %+v", u, before.Send)
		}
		if u.N != before.Send.S && !slices.Contains(before.Send.Again, u.N) {
			p.t.Fatalf("P3: %+v goes out again, and isn't to: %+v", u, before.Send)
		}
	case pdu.POLL:
		if u.N != n.send.Vars().S {
			p.t.Fatalf("P16.3: %+v, at %+v", u, n.send.Vars())
		}
	}
}

// bounds asks that rows are never longer than may be, and control units of unlike kinds.
func bounds(t *testing.T, n *Node) {
	t.Helper()
	seen := map[int]bool{}
	for _, u := range n.control.All() {
		if seen[u.Kind] || u.Check() != api.OK {
			t.Fatalf("P16.4: control units %+v", n.control.All())
		}
		seen[u.Kind] = true
	}
	v := n.Vars()
	if v.Units > n.config.Units || v.Send.Queued > n.config.Queue || v.Recv.Buffered+v.Recv.Inbox > n.config.Window {
		t.Fatalf("P16.4: %+v", v)
	}
	epoch := v.Conn.State == rules.Ready
	if n.ready() != epoch || (n.recv != nil) != epoch || !epoch && (v.PollDue || v.StatDue || v.Lacks) {
		t.Fatalf("P16.1: %+v", v)
	}
}

// ask makes a request; false: it is refused.
func (p *two) ask(e int, r event.Request) bool {
	p.t.Helper()
	p.said = nil
	l, code := p.ends[e].Request(r)
	if code != api.OK {
		if len(l) != 0 {
			p.t.Fatalf("rule 3: Request %+v: code %d, and %v", r, code, l)
		}
		p.said = []string{fmt.Sprint("code ", code)}
		return false
	}
	data := event.Hex(r.Data)
	if r.Kind == event.Take {
		data = fmt.Sprint(r.N)
	}
	p.say(e, fmt.Sprint("? ", r.Kind, " ", data))
	switch r.Kind {
	case event.Accept, event.Resynced, event.Recovered:
		p.books[e] = append(p.books[e], &epoch{})
	case event.Data:
		last := p.books[e][len(p.books[e])-1]
		last.sent = append(last.sent, r.Data)
	}
	p.tell(e, l)
	p.flush()
	return true
}

// tick lets a tick go by at both ends.
func (p *two) tick() {
	p.t.Helper()
	p.said = nil
	for e, n := range p.ends {
		p.tell(e, n.Tick())
	}
	p.flush()
}

// carry lets the first unit on the way to an end come, or be lost; false: there is none.
func (p *two) carry(e int, lost bool) bool {
	p.t.Helper()
	p.said = nil
	if len(p.ways[e]) == 0 {
		return false
	}
	u := p.ways[e][0]
	p.ways[e] = p.ways[e][1:]
	if lost {
		p.say(e, "x")
	} else {
		p.say(e, "< "+text(u))
		p.tell(e, p.ends[e].Receive(u))
	}
	p.flush()
	return true
}

// run does a step that is written in words, and answers what it told.
func (p *two) run(step string) string {
	p.t.Helper()
	words := strings.Fields(step)
	number := 0
	if len(words) > 1 {
		fmt.Sscan(words[1], &number)
	}
	switch words[0] {
	case "ask":
		data, _ := event.Unhex(words[3])
		kind := 1 + slices.Index(strings.Fields("establish accept release resync resynced recovered data unit manage take retrieve"), words[2])
		p.ask(number, event.Request{Kind: kind, Data: data})
	case "take":
		n := 0
		fmt.Sscan(words[2], &n)
		p.ask(number, event.Request{Kind: event.Take, N: n})
	case "tick":
		var l []string
		for range number {
			p.tick()
			l = append(l, p.said...)
		}
		p.said = l
	case "carry", "lose":
		if !p.carry(number, words[0] == "lose") {
			p.said = []string{"none"}
		}
	}
	if len(p.said) == 0 {
		return "."
	}
	return strings.Join(p.said, "; ")
}

// play does steps, with what each of them tells.
func play(t *testing.T, name string, p *two, steps, told string) {
	t.Helper()
	l, want := strings.Split(steps, " / "), strings.Split(told, " / ")
	if len(l) != len(want) {
		t.Fatalf("%s: %d steps, and %d that are told", name, len(l), len(want))
	}
	for i, step := range l {
		if got := p.run(step); got != want[i] {
			t.Fatalf("%s: %s:\n%s, not\n%s", name, step, got, want[i])
		}
	}
}

// ends answers configs with these windows, Queue, Polls and Start.
func ends(a, b, queue, polls int, start seq.Num) (Config, Config) {
	c := Config{Most: 3, Window: a, Queue: queue, Units: 8, Polls: polls, Start: start, Pace: ticks()}
	d := c
	d.Window = b
	return c, d
}

// P16.1: the document's examples, as far as they are of two ends.
func TestDocument(t *testing.T) {
	for i, x := range []struct {
		a, b        int
		start       seq.Num
		steps, told string
	}{
		{4, 4, 0, "ask 0 establish -", "0 ? 1 -; 0 > bgn sq1 n4 d-"},
		{2, 3, 5, "ask 0 establish 61 / carry 1 / ask 1 accept - / carry 0",
			"0 ? 1 61; 0 > bgn sq1 n7 d61 / 1 < bgn sq1 n7 d61; 1 : establish 61 / 1 ? 2 -; 1 > bgak sq1 n8 / 0 < bgak sq1 n8; 0 : established"},
		{2, 3, 0, "ask 0 establish - / carry 1 / ask 1 release 6e / carry 0",
			"0 ? 1 -; 0 > bgn sq1 n2 d- / 1 < bgn sq1 n2 d-; 1 : establish - / 1 ? 3 6e; 1 > bgrej sq1 d6e / 0 < bgrej sq1 d6e; 0 : release user 6e"},
		{4, 4, 0, "ask 0 establish - / carry 1 / ask 1 accept - / carry 0 / ask 0 data 61 / ask 0 data 62 / lose 1 / carry 1 / carry 0 / carry 1",
			"0 ? 1 -; 0 > bgn sq1 n4 d- / 1 < bgn sq1 n4 d-; 1 : establish - / 1 ? 2 -; 1 > bgak sq1 n4 / 0 < bgak sq1 n4; 0 : established / 0 ? 7 61; 0 > sd n0 d61 / 0 ? 7 62; 0 > sd n1 d62 / 1 x / 1 < sd n1 d62; 1 > ustat n0 mr4 l0,1 / 0 < ustat n0 mr4 l0,1; 0 : error V 1; 0 > sd n0 d61 / 1 < sd n0 d61; 1 : data 61; 1 : data 62"},
		{4, 4, 0, "ask 0 data 61 / ask 0 accept - / ask 1 unit 75 / carry 0", "code 8 / code 8 / 1 ? 8 75; 1 > ud d75 / 0 < ud d75; 0 : unit 75"},
		{1, 1, 0, "ask 0 establish - / carry 1 / ask 1 accept - / tick 1 / carry 0 / tick 2 / carry 0 / carry 1",
			"0 ? 1 -; 0 > bgn sq1 n1 d- / 1 < bgn sq1 n1 d-; 1 : establish - / 1 ? 2 -; 1 > bgak sq1 n1 / . / 0 < bgak sq1 n1; 0 : established / 1 > poll n0 ps1 / 0 < poll n0 ps1; 0 > stat n0 ps1 mr1 l- / 1 < stat n0 ps1 mr1 l-"},
		{4, 4, 0, "ask 0 establish - / carry 1 / ask 1 accept - / carry 0 / ask 0 resync - / ask 1 resync - / carry 1 / carry 0",
			"0 ? 1 -; 0 > bgn sq1 n4 d- / 1 < bgn sq1 n4 d-; 1 : establish - / 1 ? 2 -; 1 > bgak sq1 n4 / 0 < bgak sq1 n4; 0 : established / 0 ? 4 -; 0 > rs sq2 n4 d- / 1 ? 4 -; 1 > rs sq1 n4 d- / 1 < rs sq2 n4 d-; 1 : resynced; 1 > rsak sq2 n4 / 0 < rs sq1 n4 d-; 0 : resynced; 0 > rsak sq1 n4"},
	} {
		a, b := ends(x.a, x.b, 8, 9, x.start)
		play(t, fmt.Sprint("P16.1: example ", i+1), newTwo(t, 20, a, b), x.steps, x.told)
	}
	a, b := ends(4, 4, 8, 9, 0)
	a.Pace = pace.Config{CC: 2, Poll: 3, Keep: 6, Silent: 12, Idle: 5}
	play(t, "P16.1: the example of CC", newTwo(t, 20, a, b), "ask 0 establish - / tick 2 / tick 2 / tick 2",
		"0 ? 1 -; 0 > bgn sq1 n4 d- / 0 > bgn sq1 n4 d- / 0 > bgn sq1 n4 d- / 0 : error O; 0 : release self -; 0 > end sq1 self d-")
}

// same asks whether two units are the same; a list may be nil.
func same(a, b pdu.PDU) bool {
	return text(a) == text(b) && a.Check() == b.Check() && a.Kind == b.Kind
}

// dice throws numbers that are alike each time.
type dice uint64

// below throws a number from 0 on, below n.
func (d *dice) below(n int) int {
	*d = *d*6364136223846793005 + 1442695040888963407
	return int(uint64(*d)>>33) % n
}

// config throws a config, of windows and rows that are soon full.
func (d *dice) config(start seq.Num) Config {
	silent := 4 + d.below(12)
	return Config{
		Most: 1 + d.below(4), Window: 1 + d.below(6), Queue: 1 + d.below(6), Units: 1 + d.below(3), Polls: 1 + d.below(6), Start: start,
		Pace: pace.Config{CC: 1 + d.below(5), Poll: 1 + d.below(silent-1), Keep: 1 + d.below(silent-1), Silent: silent, Idle: 1 + d.below(9)},
	}
}

// answer is what an end's user answers in a state; 0: nothing is to be answered.
func answer(state int) int {
	switch state {
	case rules.Incoming:
		return event.Accept
	case rules.Resynced:
		return event.Resynced
	case rules.Answered, rules.Recovered:
		return event.Recovered
	}
	return 0
}

// step does something that happens to two ends, of which end 0 alone asks to establish: loss times in a hundred a unit is lost, again times in a thousand a user wants it otherwise.
func (p *two) step(d *dice, loss, again, number int) {
	p.t.Helper()
	e := d.below(2)
	state := p.ends[e].Vars().Conn.State
	if d.below(1000) < again {
		p.ask(e, event.Request{Kind: []int{event.Resync, event.Release}[d.below(2)]})
		return
	}
	switch x := d.below(100); {
	case x < 50:
		p.carry(e, d.below(100) < loss)
	case x < 60:
		p.tick()
	case x < 82:
		p.ask(e, event.Request{Kind: event.Data, Data: fmt.Sprint(number)})
	case x < 90:
		p.ask(e, event.Request{Kind: event.Take, N: 1 + d.below(4)})
	case x < 92:
		p.ask(e, event.Request{Kind: event.Unit + d.below(2), Data: "u"})
	case x < 93:
		p.ask(e, event.Request{Kind: event.Retrieve})
	case answer(state) > 0:
		p.ask(e, event.Request{Kind: answer(state)})
	case e == 0 && rules.May(state, event.Establish):
		p.ask(e, event.Request{Kind: event.Establish})
	}
}

// prefix asks that each epoch's messages are the first ones of an epoch of the other end, a later one's of a later one's.
func (p *two) prefix() {
	p.t.Helper()
	for e := range 2 {
		from := p.books[1-e]
		for i, x := range p.books[e] {
			if len(x.got) == 0 {
				continue
			}
			at := slices.IndexFunc(from, func(y *epoch) bool { return len(x.got) <= len(y.sent) && slices.Equal(x.got, y.sent[:len(x.got)]) })
			if at < 0 {
				p.t.Fatalf("P2: end %d was told %v in its epoch %d", e, x.got, i)
			}
			from = from[at+1:]
		}
	}
}

// letters counts the reports that were told, by their letters.
func (p *two) letters(count map[string]int) {
	for _, s := range p.said {
		if _, code, is := strings.Cut(s, ": error "); is {
			count[code[:1]]++
		}
	}
}

// P2: what a user is told in an epoch are the first messages, in order, each once, that the other one asked to send in one; P16.3 to P16.5 all the while.
func TestPrefix(t *testing.T) {
	told, epochs, letters := 0, 0, map[string]int{}
	for round := range 1500 {
		d := dice(round)
		start := []seq.Num{0, api.Modulus - 3, api.Half - 2, seq.Num(d.below(api.Modulus))}[d.below(4)]
		p := newTwo(t, 1+d.below(8), d.config(start), d.config(start))
		loss, again := []int{0, 5, 15, 40}[d.below(4)], []int{0, 2, 10, 40}[d.below(4)]
		for i := 0; i < 1000 && p.begun < 190; i++ {
			p.step(&d, loss, again, i)
			p.letters(letters)
		}
		p.prefix()
		for e := range 2 {
			epochs += len(p.books[e])
			for _, x := range p.books[e] {
				told += len(x.got)
			}
		}
	}
	if n := letters["Q"] + letters["R"] + letters["S"] + letters["T"]; n > 0 {
		t.Errorf("P2: what can't be was told %d times: %v", n, letters)
	}
	for _, x := range []string{"O", "P", "V", "W", "X"} {
		if letters[x] < 1000 {
			t.Errorf("P2: %s was told %d times alone", x, letters[x])
		}
	}
	if told < 40000 || epochs < 10000 {
		t.Errorf("P2: %d messages, %d epochs alone", told, epochs)
	}
}

// deliver lets all that is on its way come, and the users take it, till nothing is on its way.
func (p *two) deliver() {
	p.t.Helper()
	for i := 0; len(p.ways[0])+len(p.ways[1]) > 0; i++ {
		if i > 100000 {
			p.t.Fatalf("P6: units without an end: %v", p.said)
		}
		e := 0
		if len(p.ways[1]) > 0 {
			e = 1
		}
		p.carry(e, false)
		p.ask(e, event.Request{Kind: event.Take, N: 64})
	}
}

// fit asks whether both ends are in Ready, and ask one another ahead of giving up.
func (p *two) fit() bool {
	for _, n := range p.ends {
		if n.Vars().Conn.State != rules.Ready || !n.Safe() {
			return false
		}
	}
	return true
}

// bound is within how many ticks two ends that are fit come to rest.
func (p *two) bound() int {
	waits, longest := 0, 0
	for _, n := range p.ends {
		v := n.Vars().Send
		waits = max(waits, v.Queued+v.Kept)
		longest = max(longest, n.config.Pace.Poll, n.config.Pace.Keep)
	}
	return (waits + 4) * (1 + longest)
}

// settled asks whether nothing is on its way, and both ends are Quiet.
func (p *two) settled() bool {
	return len(p.ways[0])+len(p.ways[1]) == 0 && p.ends[0].Quiet() && p.ends[1].Quiet()
}

// P6: two ends that are fit, left alone with nothing lost, come to rest within a bound, and all messages have come.
func TestLive(t *testing.T) {
	fit, waited := 0, 0
	for round := range 8000 {
		d := dice(round + 7)
		start := []seq.Num{0, api.Modulus - 3, seq.Num(d.below(api.Modulus))}[d.below(3)]
		p := newTwo(t, 1+d.below(8), d.config(start), d.config(start))
		loss, again := []int{0, 10, 30, 60}[d.below(4)], []int{0, 2, 10}[d.below(3)]
		for i := 20 + d.below(300); i > 0 && p.begun < 190; i-- {
			p.step(&d, loss, again, i)
		}
		if !p.fit() {
			continue
		}
		fit++
		most := p.bound()
		p.deliver()
		for i := 0; !p.settled(); i++ {
			if i >= most {
				t.Fatalf("P6: round %d: not at rest behind %d ticks: %+v, %+v", round, i, p.ends[0].Vars(), p.ends[1].Vars())
			}
			p.tick()
			p.deliver()
			waited++
		}
		for e := range 2 {
			from, to := p.books[e][len(p.books[e])-1], p.books[1-e][len(p.books[1-e])-1]
			if p.ends[e].Vars().Conn.State != rules.Ready || !slices.Equal(from.sent, to.got) {
				t.Fatalf("P6: round %d: %s: %v, and %v came", round, rules.Name(p.ends[e].Vars().Conn.State), from.sent, to.got)
			}
		}
	}
	if fit < 1000 || waited < 1000 {
		t.Errorf("P6: %d that are fit, %d ticks alone", fit, waited)
	}
}
