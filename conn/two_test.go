package conn

import (
	"fmt"
	"slices"
	"strings"
	"testing"

	"polliwog/api"
	"polliwog/event"
	"polliwog/pdu"
	"polliwog/rules"
)

// two is two ends that hear one another, in order, each unit once.
type two struct {
	ends [2]*Conn
	ways [2][]pdu.PDU // to each of them
	said []string     // what happened, to be told of a fault
}

func newTwo() *two {
	c := Config{Most: 3, Credit: 4}
	return &two{ends: [2]*Conn{New(c), New(c)}}
}

func (p *two) clone() *two {
	q := *p
	for e := range 2 {
		q.ends[e] = p.ends[e].Clone()
		q.ways[e] = append([]pdu.PDU(nil), p.ways[e]...)
	}
	q.said = append([]string(nil), p.said...)
	return &q
}

// key is the same of two that go on alike.
func (p *two) key() string {
	k := fmt.Sprint(*p.ends[0], *p.ends[1])
	for e := range 2 {
		k += "|"
		for _, u := range p.ways[e] {
			k += fmt.Sprint(" ", u.Kind, " ", u.SQ, " ", u.Self)
		}
	}
	return k
}

// bring puts what a call at an end brought into the way to the other one.
func (p *two) bring(e int, what string, r Result) {
	p.ways[1-e] = append(p.ways[1-e], r.Units...)
	l := []string{fmt.Sprint(e, " ", what, ":")}
	for _, s := range r.Signals {
		l = append(l, s.Text()+";")
	}
	for _, u := range r.Units {
		l = append(l, fmt.Sprint("> ", u.Name(), u.SQ))
	}
	p.said = append(p.said, strings.Join(append(l, rules.Name(p.ends[e].state)), " "))
}

// ask makes a request; false: it may not be.
func (p *two) ask(e, kind int) bool {
	r, code := p.ends[e].Request(kind, "")
	if code != api.OK {
		return false
	}
	p.bring(e, fmt.Sprint("asks ", kind), r)
	return true
}

// carry lets the first unit come to an end; false: there is none.
func (p *two) carry(e int) bool {
	if len(p.ways[e]) == 0 {
		return false
	}
	u := p.ways[e][0]
	p.ways[e] = p.ways[e][1:]
	p.bring(e, fmt.Sprint("hears ", u.Name(), u.SQ), p.ends[e].Receive(u))
	return true
}

// answer lets an end's user answer what it was told; false: there is nothing to answer.
func (p *two) answer(e int) bool {
	return p.ask(e, event.Accept) || p.ask(e, event.Resynced) || p.ask(e, event.Recovered)
}

// settle lets all units come, and the users answer, till nothing more happens; false: it doesn't end.
func (p *two) settle() bool {
	for range 1000 {
		if !p.carry(0) && !p.carry(1) && !p.answer(0) && !p.answer(1) {
			return true
		}
	}
	return false
}

// A deed is what a user, or an end itself, may do whenever it likes; false: not now.
type deed func(p *two, e int) bool

func asking(kind int) deed {
	return func(p *two, e int) bool { return p.ask(e, kind) }
}

func failing(p *two, e int) bool {
	if p.ends[e].state != rules.Ready {
		return false
	}
	p.bring(e, "fails", p.ends[e].Fail('Q'))
	return true
}

func falling(p *two, e int) bool {
	if p.ends[e].state != rules.Ready {
		return false
	}
	p.bring(e, "is silent", p.ends[e].Silent())
	return true
}

// next answers all that may come behind this, and whether it took a deed.
func (p *two) next(deeds [2][]deed) (free, taken []*two) {
	for e := range 2 {
		if c := p.clone(); c.carry(e) {
			free = append(free, c)
		}
		if c := p.clone(); c.answer(e) {
			free = append(free, c)
		}
		for _, d := range deeds[e] {
			if c := p.clone(); d(c, e) {
				taken = append(taken, c)
			}
		}
	}
	return free, taken
}

// explore looks at all that may come of at most so many deeds, in every order of what comes and is answered.
func explore(start *two, most int, deeds [2][]deed, look func(p *two)) int {
	seen := map[string]bool{}
	now := []*two{start}
	for n := 0; n <= most; n++ {
		var later []*two
		for len(now) > 0 {
			p := now[len(now)-1]
			now = now[:len(now)-1]
			if seen[p.key()] {
				continue
			}
			seen[p.key()] = true
			look(p)
			free, taken := p.next(deeds)
			now = append(now, free...)
			later = append(later, taken...)
		}
		now = later
	}
	return len(seen)
}

// expire lets an end's timer be over, if one runs.
func (p *two) expire(e int) bool {
	if !slices.Contains([]int{rules.Outgoing, rules.Leaving, rules.Resyncing, rules.Recovering}, p.ends[e].state) {
		return false
	}
	p.bring(e, "expires", p.ends[e].Expire())
	return true
}

// both asks whether both ends are in a state, and nothing is on its way.
func (p *two) both(state int) bool {
	return p.ends[0].state == state && p.ends[1].state == state && len(p.ways[0])+len(p.ways[1]) == 0
}

// fault tells what led to where both ends may not be.
func (p *two) fault(t *testing.T, what string) {
	t.Helper()
	t.Fatalf("P14.4: %s: %s, %s, behind\n%s", what, rules.Name(p.ends[0].state), rules.Name(p.ends[1].state), strings.Join(p.said, "\n"))
}

// agree asks that both ends, left alone, come to be Ready both, or Idle both, and then, as they are asked to, to the other one.
func agree(t *testing.T, p *two, timers bool) {
	t.Helper()
	p = p.clone()
	for p.settle() && timers && (p.expire(0) || p.expire(1)) {
	}
	if !p.both(rules.Idle) && !p.both(rules.Ready) {
		p.fault(t, "left alone")
	}
	for e := range 2 {
		if p.both(rules.Idle) && (!p.ask(e, event.Establish) || !p.settle() || !p.both(rules.Ready)) {
			p.fault(t, "established")
		}
		if !p.ask(1-e, event.Release) || !p.settle() || !p.both(rules.Idle) {
			p.fault(t, "released")
		}
	}
}

// begun answers two ends whose last SQs were these.
func begun(sq [2]int) *two {
	p := newTwo()
	for e := range 2 {
		p.ends[e].sq, p.ends[e].peer = sq[e], sq[1-e]
	}
	return p
}

// deeds has what is done whenever it may be.
func deeds() []deed {
	return []deed{asking(event.Release), asking(event.Resync), failing, falling}
}

// P14.4: one end alone asks to establish: whatever else is done, and in whichever order it comes, both ends agree.
func TestTwo(t *testing.T) {
	for _, start := range []*two{newTwo(), begun([2]int{254, 255})} {
		n := explore(start, 6, [2][]deed{append(deeds(), asking(event.Establish)), deeds()}, func(p *two) { agree(t, p, false) })
		if n < 5000 {
			t.Errorf("P14.4: %d cases alone", n)
		}
	}
}

// P14.4: both ends may ask to establish, at once or crosswise: a few requests need no timer.
func TestTwoBoth(t *testing.T) {
	all := append(deeds(), asking(event.Establish))
	for _, start := range []*two{newTwo(), begun([2]int{255, 0})} {
		n := explore(start, 4, [2][]deed{all, all}, func(p *two) { agree(t, p, false) })
		if n < 2000 {
			t.Errorf("P14.4: %d cases alone", n)
		}
	}
}

// P14.4: of more requests that cross one another the timer helps.
func TestTwoTimers(t *testing.T) {
	all := append(deeds(), asking(event.Establish))
	explore(newTwo(), 6, [2][]deed{all, all}, func(p *two) { agree(t, p, true) })
}

// said asks for what happened, line by line.
func said(t *testing.T, p *two, want ...string) {
	t.Helper()
	if !slices.Equal(p.said, want) {
		t.Errorf("P14.4: it was said\n%s\nnot\n%s", strings.Join(p.said, "\n"), strings.Join(want, "\n"))
	}
}

// P14.4: a connection comes, is asked anew, recovers, and goes, with all that is told.
func TestTwoSaid(t *testing.T) {
	p := newTwo()
	p.ask(0, event.Establish)
	p.settle()
	p.ask(1, event.Resync)
	p.settle()
	failing(p, 0)
	p.settle()
	p.ask(1, event.Release)
	p.settle()
	said(t, p,
		"0 asks 1: > bgn1 outgoing",
		"1 hears bgn1: establish -; incoming",
		"1 asks 2: > bgak1 ready",
		"0 hears bgak1: established; ready",
		"1 asks 4: > rs1 resyncing",
		"0 hears rs1: resync -; resynced",
		"0 asks 5: > rsak1 ready",
		"1 hears rsak1: resynced; ready",
		"0 fails: error Q; > er2 recovering",
		"1 hears er2: recover; recovered",
		"1 asks 6: > erak2 ready",
		"0 hears erak2: recover; answered",
		"0 asks 6: ready",
		"1 asks 3: > end1 leaving",
		"0 hears end1: release user -; > endak1 idle",
		"1 hears endak1: released; idle",
	)
}

// P14.4: both begin at once, or recover at once, and both end at once.
func TestTwoAtOnce(t *testing.T) {
	p := newTwo()
	p.ask(0, event.Establish)
	p.ask(1, event.Establish)
	p.settle()
	failing(p, 0)
	failing(p, 1)
	p.settle()
	p.ask(0, event.Resync)
	p.ask(1, event.Resync)
	p.settle()
	p.ask(0, event.Release)
	p.ask(1, event.Release)
	p.settle()
	said(t, p,
		"0 asks 1: > bgn1 outgoing",
		"1 asks 1: > bgn1 outgoing",
		"0 hears bgn1: established; > bgak1 ready",
		"1 hears bgn1: established; > bgak1 ready",
		"0 hears bgak1: ready",
		"1 hears bgak1: ready",
		"0 fails: error Q; > er2 recovering",
		"1 fails: error Q; > er2 recovering",
		"0 hears er2: recover; > erak2 answered",
		"1 hears er2: recover; > erak2 answered",
		"0 hears erak2: answered",
		"1 hears erak2: answered",
		"0 asks 6: ready",
		"1 asks 6: ready",
		"0 asks 4: > rs3 resyncing",
		"1 asks 4: > rs3 resyncing",
		"0 hears rs3: resynced; > rsak3 ready",
		"1 hears rs3: resynced; > rsak3 ready",
		"0 hears rsak3: ready",
		"1 hears rsak3: ready",
		"0 asks 3: > end3 leaving",
		"1 asks 3: > end3 leaving",
		"0 hears end3: released; > endak3 idle",
		"1 hears end3: released; > endak3 idle",
		"0 hears endak3: idle",
		"1 hears endak3: idle",
	)
}

// P14.4: one that isn't accepted, and one that the other end wants anew.
func TestTwoRefused(t *testing.T) {
	p := newTwo()
	p.ask(0, event.Establish)
	p.carry(1)
	p.ask(1, event.Release)
	p.settle()
	p.ask(0, event.Establish)
	p.ask(0, event.Release)
	p.ask(0, event.Establish)
	p.settle()
	said(t, p,
		"0 asks 1: > bgn1 outgoing",
		"1 hears bgn1: establish -; incoming",
		"1 asks 3: > bgrej1 idle",
		"0 hears bgrej1: release user -; idle",
		"0 asks 1: > bgn2 outgoing",
		"0 asks 3: > end2 leaving",
		"0 asks 1: > bgn3 outgoing",
		"1 hears bgn2: establish -; incoming",
		"1 hears end2: release user -; > endak2 idle",
		"0 hears endak2: outgoing",
		"1 hears bgn3: establish -; incoming",
		"1 asks 2: > bgak3 ready",
		"0 hears bgak3: established; ready",
	)
}
