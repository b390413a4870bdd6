package epoch

import (
	"fmt"
	"slices"
	"testing"

	"polliwog/api"
	"polliwog/event"
	"polliwog/link"
	"polliwog/node"
	"polliwog/pace"
	"polliwog/pdu"
	"polliwog/pipe"
	"polliwog/rules"
	"polliwog/seq"
)

// dice throws numbers that are alike each time.
type dice uint64

// below throws a number from 0 on, below n.
func (d *dice) below(n int) int {
	*d = *d*6364136223846793005 + 1442695040888963407
	return int(uint64(*d)>>33) % n
}

// messages throws at most so many messages, of few kinds.
func (d *dice) messages(most int) []string {
	var l []string
	for range d.below(most + 1) {
		l = append(l, []string{"a", "b", ""}[d.below(3)])
	}
	return l
}

// epochs throws at most so many epochs.
func (d *dice) epochs(most int) []Epoch {
	var l []Epoch
	for range d.below(most + 1) {
		l = append(l, Epoch{Sent: d.messages(3), Got: d.messages(2)})
	}
	return l
}

// beginsSo asks whether a list begins so, message by message.
func beginsSo(sent, got []string) bool {
	for i, m := range got {
		if i >= len(sent) || sent[i] != m {
			return false
		}
	}
	return true
}

// ways answers all lists of places that may be Match's but for that the first ones are to be taken, those of first places first.
func ways(sent, got []Epoch, from int) [][]int {
	for len(got) > 0 && len(got[0].Got) == 0 {
		got = got[1:]
	}
	if len(got) == 0 {
		return [][]int{nil}
	}
	var all [][]int
	for at := from; at < len(sent); at++ {
		if beginsSo(sent[at].Sent, got[0].Got) {
			for _, l := range ways(sent, got[1:], at+1) {
				all = append(all, append([]int{at}, l...))
			}
		}
	}
	return all
}

// P20.1: Prefix, and Match, which finds a way whenever there is one, and the first of them; neither changes what it is handed.
func TestAnyEpochs(t *testing.T) {
	d := dice(20)
	yes, no := 0, 0
	for range 60000 {
		sent, got := d.epochs(6), d.epochs(4)
		// Else hardly any would match.
		for i := range got {
			if i < len(sent) && d.below(3) > 0 {
				s := sent[i+d.below(len(sent)-i)].Sent
				got[i].Got = slices.Clone(s[:d.below(len(s)+1)])
			}
		}
		before := text(sent) + text(got)
		all := ways(sent, got, 0)
		l, ok := Match(sent, got)
		if ok != (len(all) > 0) || ok && !slices.Equal(l, all[0]) || !ok && l != nil {
			t.Fatalf("P20.1: Match of %s and %s: %v, %t, of %v", text(sent), text(got), l, ok, all)
		}
		a, b := d.messages(4), d.messages(3)
		if got := Prefix(a, b); got != beginsSo(a, b) {
			t.Fatalf("P20.1: Prefix of %q, %q: %t", a, b, got)
		}
		if text(sent)+text(got) != before {
			t.Fatalf("rule 5: %s, not %s", text(sent)+text(got), before)
		}
		if !ok {
			no++
		} else if len(l) > 1 {
			yes++
		}
	}
	if yes < 3000 || no < 3000 {
		t.Errorf("P20.1: %d match, %d don't, alone", yes, no)
	}
}

// P20.1: any records, one by one, some at a time, or all at once: the same book, which is what the chapter's words say.
func TestAnyRecords(t *testing.T) {
	sound := 0
	for round := range 8000 {
		d := dice(round)
		var all, one, some Book
		var model [2][]Epoch
		var l []link.Record
		for range d.below(40) {
			r := link.Record{
				End: []int{0, 1, 0, 1, 0, 1, 2, -1}[d.below(8)], Kind: []int{5, 6, 6, 6, d.below(9) - 1}[d.below(5)],
				Signal:  event.Signal{Kind: []int{8, d.below(14)}[d.below(2)], Data: "aaaab"[d.below(5):][:1]},
				Request: event.Request{Kind: []int{7, 7, 7, d.below(14)}[d.below(4)], Data: "aaaab"[d.below(5):][:1]},
			}
			l = append(l, r)
			if r.End&^1 != 0 {
				continue
			}
			m := &model[r.End]
			n := len(*m) - 1
			switch fmt.Sprint(r.Kind, ":", map[int]int{5: r.Signal.Kind, 6: r.Request.Kind}[r.Kind]) {
			case "5:2", "5:6", "6:2", "6:5", "6:6":
				*m = append(*m, Epoch{})
			case "5:8":
				if n >= 0 {
					(*m)[n].Got = append((*m)[n].Got, r.Signal.Data)
				}
			case "6:7":
				if n >= 0 {
					(*m)[n].Sent = append((*m)[n].Sent, r.Request.Data)
				}
			}
		}
		all.Add(l...)
		for _, r := range l {
			one.Add(r)
		}
		for rest := l; len(rest) > 0; {
			n := 1 + d.below(len(rest))
			some.Add(rest[:n]...)
			rest = rest[n:]
		}
		is := len(ways(model[0], model[1], 0)) > 0 && len(ways(model[1], model[0], 0)) > 0
		for _, b := range []*Book{&all, &one, &some} {
			want(t, b, model)
			if b.Sound() != is {
				t.Fatalf("P20.1: Sound: %t: %s| %s", !is, text(model[0]), text(model[1]))
			}
		}
		if is && len(model[0])+len(model[1]) > 2 {
			sound++
		}
	}
	if sound < 100 {
		t.Errorf("P20.1: %d books are sound alone", sound)
	}
}

// play is a link, the book of it, and all that happened.
type play struct {
	*link.Link
	t      *testing.T
	book   Book
	l      []link.Record
	begins int // how many BGN, RS and ER went out
}

func begin(t *testing.T, c link.Config) *play {
	t.Helper()
	l, code := link.New(c)
	if code != api.OK {
		t.Fatalf("a link that may not be: %+v: code %d", c, code)
	}
	return &play{Link: l, t: t}
}

// happened puts into the book what happened.
func (p *play) happened(l []link.Record) {
	p.book.Add(l...)
	p.l = append(p.l, l...)
	for _, r := range l {
		if r.Kind == link.Sent && slices.Contains([]int{pdu.BGN, pdu.RS, pdu.ER}, r.Unit.Kind) {
			p.begins++
		}
	}
}

func (p *play) ask(end, kind int, data string) {
	l, _ := p.Request(end, event.Request{Kind: kind, Data: data})
	p.happened(l)
}

func (p *play) carry(end int, c pipe.Choice) {
	l, _ := p.Carry(end, c)
	p.happened(l)
}

// counts is of each end of each epoch how many it sent, and got; and whether the book is sound.
func (p *play) counts() string {
	s := ""
	for end := range 2 {
		for _, e := range p.book.Epochs(end) {
			s += fmt.Sprintf("%d/%d ", len(e.Sent), len(e.Got))
		}
		s += "| "
	}
	return s + fmt.Sprint(p.book.Sound())
}

// usual is a config with these windows.
func usual(window int) link.Config {
	c := node.Config{Most: 3, Window: window, Queue: 8, Units: 8, Polls: 9, Pace: pace.Config{CC: 4, Poll: 3, Keep: 6, Silent: 12, Idle: 5}}
	return link.Config{Ends: [2]node.Config{c, c}, Room: 20}
}

// establish brings both ends to Ready.
func (p *play) establish() {
	p.ask(0, event.Establish, "")
	p.carry(1, pipe.Choice{})
	p.ask(1, event.Accept, "")
	p.carry(0, pipe.Choice{})
}

// P20.2: the books of the document's examples.
func TestDocument(t *testing.T) {
	p := begin(t, usual(4))
	p.establish()
	p.ask(0, event.Data, "a")
	p.ask(0, event.Data, "b")
	p.carry(1, pipe.Choice{Kind: pipe.Lose})
	for _, end := range []int{1, 0, 1} {
		p.carry(end, pipe.Choice{})
	}
	if got := p.counts(); got != "2/0 | 0/2 | true" {
		t.Errorf("P20.2: %s", got)
	}
	p = begin(t, usual(4))
	p.establish()
	p.ask(0, event.Resync, "")
	p.ask(1, event.Resync, "")
	p.carry(1, pipe.Choice{})
	p.carry(0, pipe.Choice{})
	if got := p.counts(); got != "0/0 0/0 | 0/0 0/0 | true" {
		t.Errorf("P20.2: %s", got)
	}
}

// config throws a config, of windows, rows and pipes that are soon full.
func (d *dice) config() link.Config {
	start := []seq.Num{0, api.Modulus - 2, api.Half - 2, seq.Num(d.below(api.Modulus))}[d.below(4)]
	var c link.Config
	for end := range c.Ends {
		silent := 3 + d.below(14)
		c.Ends[end] = node.Config{
			Most: 1 + d.below(4), Window: 1 + d.below(7), Queue: 1 + d.below(7), Units: 1 + d.below(3), Polls: 1 + d.below(7), Start: start,
			Pace: pace.Config{CC: 1 + d.below(6), Poll: 1 + d.below(silent-1), Keep: 1 + d.below(silent-1), Silent: silent, Idle: 1 + d.below(9)},
		}
	}
	c.Room = 1 + d.below(9)
	return c
}

// habits says how often, in a thousand, what is done to a link.
type habits struct {
	lose, spoil, tick, data, leave int
	by                             int // the end that alone asks to Establish
}

// habits throws how a link is treated.
func (d *dice) habits() habits {
	some := func(l ...int) int { return l[d.below(len(l))] }
	return habits{
		lose: some(0, 20, 150, 400), spoil: some(0, 0, 50, 200), tick: some(30, 80, 160), data: some(100, 250), leave: some(0, 2, 10, 40), by: d.below(2),
	}
}

// wish is what a user asks in a state that isn't Ready; 0: it waits.
func wish(state int) int {
	switch state {
	case rules.Idle, rules.Leaving:
		return event.Establish
	case rules.Incoming:
		return event.Accept
	case rules.Resynced:
		return event.Resynced
	case rules.Answered, rules.Recovered:
		return event.Recovered
	}
	return 0
}

// step does something to a link, of which one end alone asks to Establish; number tells most messages from one another.
func (p *play) step(d *dice, h habits, number int) {
	end := d.below(2)
	message := []string{fmt.Sprint(number), fmt.Sprint(number), "a"}[d.below(3)]
	if d.below(1000) < h.leave {
		p.ask(end, []int{event.Resync, event.Release}[d.below(2)], message)
	}
	if d.below(1000) < h.tick {
		p.happened(p.Tick())
	}
	switch x := d.below(1000); {
	case x < h.data:
		p.ask(end, event.Data, message)
	case x < 340:
		l, _ := p.Request(end, event.Request{Kind: event.Take, N: 1 + d.below(5)})
		p.happened(l)
	case x < 360:
		p.ask(end, []int{event.Unit, event.Manage, event.Retrieve}[d.below(3)], "")
	case x < 460:
		if kind := wish(p.Node(end).Vars().Conn.State); kind != event.Establish || end == h.by {
			p.ask(end, kind, "")
		}
	default:
		p.carry(end, d.choice(h))
	}
}

// choice throws what becomes of a frame.
func (d *dice) choice(h habits) pipe.Choice {
	switch x := d.below(1000); {
	case x < h.lose:
		return pipe.Choice{Kind: pipe.Lose}
	case x < h.lose+h.spoil:
		return pipe.Choice{Kind: pipe.Spoil, At: d.below(900) - 40, Mask: uint32(d.below(1<<31))<<1 | 1}
	}
	return pipe.Choice{Kind: pipe.Carry}
}

// P20.2: whatever is lost, spoilt within 32 bits, asked, and however clocks go, the book is sound at any time; a book in which a message is wrong, or wanting, isn't.
func TestLinks(t *testing.T) {
	got, epochs, matched, spoilt := 0, 0, 0, 0
	for round := range 1200 {
		d := dice(round)
		p := begin(t, d.config())
		h := d.habits()
		for i := 0; i < 900 && p.begins < 190; i++ {
			p.step(&d, h, i)
			if i%30 == 0 && !p.book.Sound() {
				t.Fatalf("P20.2: round %d, step %d: %s", round, i, p.counts())
			}
		}
		if !p.book.Sound() {
			t.Fatalf("P20.2: round %d: %s", round, p.counts())
		}
		for end := range 2 {
			for _, e := range p.book.Epochs(end) {
				got += len(e.Got)
			}
			epochs += len(p.book.Epochs(end))
			l, _ := Match(p.book.Epochs(1-end), p.book.Epochs(end))
			matched += len(l)
		}
		spoilt += p.spoil(&d)
	}
	if got < 20000 || epochs < 5000 || matched < 2000 || spoilt < 500 {
		t.Errorf("P20.2: %d messages, %d epochs, of which %d match, %d spoilt books alone", got, epochs, matched, spoilt)
	}
}

// spoil makes books in which a message that was told is another one, or that nobody asked to send was: they aren't sound. It answers how many it made.
func (p *play) spoil(d *dice) int {
	p.t.Helper()
	var told []int
	for i, r := range p.l {
		if r.Kind == link.Told && r.Signal.Kind == event.DataInd {
			told = append(told, i)
		}
	}
	if len(told) == 0 {
		return 0
	}
	at := told[d.below(len(told))]
	other, more, fewer := slices.Clone(p.l), slices.Insert(slices.Clone(p.l), at+1, p.l[at]), slices.Clone(p.l)
	other[at].Signal.Data = "of nobody"
	more[at].Signal.Data = "of nobody"
	// All that the other end asked to send from some time on isn't in the book.
	for i, r := range fewer {
		if r.End != p.l[at].End && r.Kind == link.Asked && r.Request.Kind == event.Data && r.Request.Data == p.l[at].Signal.Data {
			fewer[i].Kind = link.Garbled
		}
	}
	for what, l := range map[string][]link.Record{"another one": other, "one more": more, "not asked": fewer} {
		var b Book
		b.Add(l...)
		if b.Sound() {
			p.t.Fatalf("P20.1: %s: the book is sound: %s| %s", what, text(b.Epochs(0)), text(b.Epochs(1)))
		}
	}
	return 3
}
