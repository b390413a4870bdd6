package pace

import (
	"fmt"
	"math"
	"slices"
	"testing"

	"polliwog/api"
	"polliwog/timer"
)

// names has the timers' names by their numbers.
var names = [...]string{"CC", "Poll", "Keep", "Silent", "Idle"}

// model has the ticks of each timer that runs, by its name; what isn't in it doesn't run.
type model struct {
	ticks, left map[string]int
}

func newModel(c Config) *model {
	return &model{
		ticks: map[string]int{"CC": c.CC, "Poll": c.Poll, "Keep": c.Keep, "Silent": c.Silent, "Idle": c.Idle},
		left:  map[string]int{},
	}
}

func (m *model) runs(name string) bool {
	_, is := m.left[name]
	return is
}

func (m *model) start(name string) {
	m.left[name] = m.ticks[name]
}

func (m *model) stop(names ...string) {
	for _, name := range names {
		delete(m.left, name)
	}
}

// call does one of the calls that answer nothing, by its name, as the chapter says it.
func (m *model) call(what string) {
	silent := func() {
		if !m.runs("Silent") {
			m.start("Silent")
		}
	}
	switch what {
	case "Begin":
		m.start("Poll")
		m.start("Silent")
		m.stop("Keep", "Idle")
	case "End":
		m.stop("Poll", "Keep", "Silent", "Idle")
	case "Again":
		m.start("CC")
	case "Enough":
		m.stop("CC")
	case "Busy":
		if m.runs("Keep") || m.runs("Idle") {
			m.stop("Keep", "Idle")
			m.start("Poll")
			silent()
		}
	case "Polled true":
		m.stop("Poll", "Keep", "Idle")
		m.start("Keep")
		silent()
	case "Polled false":
		m.stop("Poll", "Keep", "Idle")
		m.start("Poll")
		silent()
	case "Answered true":
		if m.runs("Keep") {
			m.stop("Keep", "Silent")
			m.start("Idle")
		} else if !m.runs("Idle") {
			m.start("Silent")
		}
	case "Answered false":
		if !m.runs("Idle") {
			m.start("Silent")
		}
	default:
		panic("no call: " + what)
	}
}

// tick answers those that are over.
func (m *model) tick() []int {
	var over []int
	for t, name := range names {
		if m.runs(name) {
			m.left[name]--
			if m.left[name] == 0 {
				m.stop(name)
				over = append(over, t)
			}
		}
	}
	return over
}

// safe is Safe, as the chapter says it.
func (m *model) safe() bool {
	silent, runs := m.left["Silent"]
	poll, polls := m.left["Poll"]
	keep, keeps := m.left["Keep"]
	return !runs || polls && poll < silent || keeps && keep < silent
}

// calls has all that may be called, and answers nothing.
func calls() []string {
	return []string{"Begin", "End", "Again", "Enough", "Busy", "Polled true", "Polled false", "Answered true", "Answered false"}
}

// do does a call, by its name.
func do(p *Pace, what string) {
	switch what {
	case "Begin":
		p.Begin()
	case "End":
		p.End()
	case "Again":
		p.Again()
	case "Enough":
		p.Enough()
	case "Busy":
		p.Busy()
	case "Polled true":
		p.Polled(true)
	case "Polled false":
		p.Polled(false)
	case "Answered true":
		p.Answered(true)
	case "Answered false":
		p.Answered(false)
	default:
		panic("no call: " + what)
	}
}

// made answers a pace that may be.
func made(t *testing.T, c Config) *Pace {
	t.Helper()
	p, code := New(c)
	if code != api.OK || p == nil {
		t.Fatalf("P15.1: New of %+v: code %d", c, code)
	}
	return p
}

// same holds a pace against the model, by each call that changes nothing.
func same(t *testing.T, what string, p *Pace, m *model) {
	t.Helper()
	for x, name := range names {
		if p.Left(x) != m.left[name] || p.Runs(x) != m.runs(name) {
			t.Fatalf("P15.1: %s: %s: %d left, runs %t, not %d", what, name, p.Left(x), p.Runs(x), m.left[name])
		}
	}
	for _, x := range strange() {
		if p.Left(x) != 0 || p.Runs(x) {
			t.Fatalf("P15.1: %s: timer %d: %d left, runs %t", what, x, p.Left(x), p.Runs(x))
		}
	}
	if p.Safe() != m.safe() {
		t.Fatalf("P15.1: %s: Safe: %t: %v", what, p.Safe(), m.left)
	}
}

// strange has numbers that are no timer's.
func strange() []int {
	return []int{math.MinInt, -1 << 32, -5, -1, 5, 6, 255, 256, 1 << 32, 1<<32 + 1, math.MaxInt}
}

// usual is a config with ticks of which no two are the same.
func usual() Config {
	return Config{CC: 3, Poll: 2, Keep: 5, Silent: 9, Idle: 4}
}

// P15.1: each number of ticks by itself may be 1 to 2^20.
func TestCheckEach(t *testing.T) {
	good := Config{CC: 7, Poll: 7, Keep: 7, Silent: 1 << 20, Idle: 7}
	for _, x := range []struct {
		n  int
		ok bool
	}{
		{1, true}, {2, true}, {1<<20 - 1, true}, {1 << 20, true},
		{0, false}, {-1, false}, {1<<20 + 1, false}, {1 << 32, false}, {1<<32 + 1, false}, {math.MinInt, false}, {math.MaxInt, false},
	} {
		for i, name := range names {
			c := good
			*[]*int{&c.CC, &c.Poll, &c.Keep, &c.Silent, &c.Idle}[i] = x.n
			switch name {
			case "Poll", "Keep":
				// As much as Silent it may not be anyway.
				if x.n == 1<<20 {
					continue
				}
			case "Silent":
				c.Poll, c.Keep = 1, 1
				if x.n == 1 {
					continue
				}
			}
			want := api.OK
			if !x.ok {
				want = api.ErrArg
			}
			check(t, c, want)
		}
	}
	check(t, Config{}, api.ErrArg)
}

// check asks Check, and New, which answers the same.
func check(t *testing.T, c Config, want api.Errno) {
	t.Helper()
	if code := c.Check(); code != want {
		t.Errorf("P15.1: Check of %+v: %d, not %d", c, code, want)
	}
	p, code := New(c)
	if code != want || (p == nil) != (want != api.OK) {
		t.Errorf("P15.1: New of %+v: %v, %d, not %d", c, p, code, want)
	}
}

// P15.1: Poll and Keep are below Silent; CC and Idle needn't be.
func TestCheckSilent(t *testing.T) {
	for poll := 1; poll <= 4; poll++ {
		for keep := 1; keep <= 4; keep++ {
			for silent := 1; silent <= 5; silent++ {
				want := api.ErrArg
				if poll < silent && keep < silent {
					want = api.OK
				}
				check(t, Config{CC: 9, Poll: poll, Keep: keep, Silent: silent, Idle: 9}, want)
			}
		}
	}
	check(t, Config{CC: 1 << 20, Poll: 1<<20 - 1, Keep: 1<<20 - 1, Silent: 1 << 20, Idle: 1 << 20}, api.OK)
	check(t, Config{CC: 1 << 20, Poll: 1 << 20, Keep: 1, Silent: 1 << 20, Idle: 1 << 20}, api.ErrArg)
	check(t, Config{CC: 1 << 20, Poll: 1, Keep: 1 << 20, Silent: 1 << 20, Idle: 1 << 20}, api.ErrArg)
}

// P15.1: of a new one no timer runs, and it is Safe.
func TestNew(t *testing.T) {
	p := made(t, usual())
	same(t, "new", p, newModel(usual()))
	if l := p.Tick(); len(l) != 0 || !p.Safe() {
		t.Errorf("P15.1: a new one: %v are over, Safe %t", l, p.Safe())
	}
}

// P15.1: the chapter's example.
func TestExample(t *testing.T) {
	p := made(t, Config{CC: 1, Poll: 2, Keep: 5, Silent: 9, Idle: 4})
	p.Begin()
	if l := p.Tick(); len(l) != 0 {
		t.Errorf("P15.1: the first tick: %v", l)
	}
	if l := p.Tick(); !slices.Equal(l, []int{timer.Poll}) {
		t.Errorf("P15.1: the second tick: %v", l)
	}
	p.Polled(true)
	p.Answered(true)
	for x := range 5 {
		if p.Runs(x) != (x == timer.Idle) {
			t.Errorf("P15.1: timer %d runs: %t", x, p.Runs(x))
		}
	}
	if p.Left(timer.Idle) != 4 {
		t.Errorf("P15.1: Idle has %d left", p.Left(timer.Idle))
	}
}

// runs answers a pace, and its model, of which just these timers run, with so many ticks left.
func runs(t *testing.T, c Config, left map[string]int) (*Pace, *model) {
	p, m := made(t, c), newModel(c)
	for x, name := range names {
		if n, is := left[name]; is {
			p.Start(x, n)
			m.left[name] = n
		}
	}
	return p, m
}

// P15.1: each call, whichever timers run, and however many ticks they have left.
func TestCalls(t *testing.T) {
	for which := range 1 << 5 {
		for _, far := range []int{1, 2, 7} {
			left := map[string]int{}
			for x, name := range names {
				if which>>x&1 == 1 {
					left[name] = 1 + (far*(x+1))%8
				}
			}
			for _, what := range calls() {
				p, m := runs(t, usual(), left)
				same(t, fmt.Sprint(left), p, m)
				do(p, what)
				m.call(what)
				same(t, fmt.Sprint(what, " of ", left), p, m)
			}
			p, m := runs(t, usual(), left)
			if got, want := p.Tick(), m.tick(); !slices.Equal(got, want) {
				t.Fatalf("P15.1: Tick of %v: %v, not %v", left, got, want)
			}
			same(t, fmt.Sprint("Tick of ", left), p, m)
		}
	}
}

// P15.1: each call, said outright: what runs behind it, with how many ticks.
func TestPhases(t *testing.T) {
	active := map[string]int{"CC": 1, "Poll": 1, "Silent": 6}
	transient := map[string]int{"CC": 1, "Keep": 2, "Silent": 6}
	idle := map[string]int{"CC": 1, "Idle": 3}
	none := map[string]int{}
	for _, x := range []struct {
		left map[string]int
		what string
		want [5]int // CC, Poll, Keep, Silent, Idle
	}{
		{none, "Begin", [5]int{0, 2, 0, 9, 0}},
		{transient, "Begin", [5]int{1, 2, 0, 9, 0}},
		{idle, "Begin", [5]int{1, 2, 0, 9, 0}},
		{active, "End", [5]int{1, 0, 0, 0, 0}},
		{transient, "End", [5]int{1, 0, 0, 0, 0}},
		{idle, "End", [5]int{1, 0, 0, 0, 0}},
		{active, "Again", [5]int{3, 1, 0, 6, 0}},
		{none, "Again", [5]int{3, 0, 0, 0, 0}},
		{idle, "Enough", [5]int{0, 0, 0, 0, 3}},
		{none, "Busy", [5]int{}},
		{active, "Busy", [5]int{1, 1, 0, 6, 0}},
		{transient, "Busy", [5]int{1, 2, 0, 6, 0}},
		{idle, "Busy", [5]int{1, 2, 0, 9, 0}},
		{active, "Polled false", [5]int{1, 2, 0, 6, 0}},
		{active, "Polled true", [5]int{1, 0, 5, 6, 0}},
		{transient, "Polled false", [5]int{1, 2, 0, 6, 0}},
		{transient, "Polled true", [5]int{1, 0, 5, 6, 0}},
		{idle, "Polled false", [5]int{1, 2, 0, 9, 0}},
		{idle, "Polled true", [5]int{1, 0, 5, 9, 0}},
		{active, "Answered false", [5]int{1, 1, 0, 9, 0}},
		{active, "Answered true", [5]int{1, 1, 0, 9, 0}},
		{transient, "Answered false", [5]int{1, 0, 2, 9, 0}},
		{transient, "Answered true", [5]int{1, 0, 0, 0, 4}},
		{idle, "Answered false", [5]int{1, 0, 0, 0, 3}},
		{idle, "Answered true", [5]int{1, 0, 0, 0, 3}},
		{none, "Answered true", [5]int{0, 0, 0, 9, 0}},
	} {
		p, _ := runs(t, usual(), x.left)
		do(p, x.what)
		var got [5]int
		for i := range got {
			got[i] = p.Left(i)
		}
		if got != x.want {
			t.Errorf("P15.1: %s of %v: %v, not %v", x.what, x.left, got, x.want)
		}
	}
}

// P15.1: Asks is of Poll, Keep and Idle alone, whatever runs.
func TestAsks(t *testing.T) {
	p := made(t, usual())
	for range 2 {
		for x := -10; x < 20; x++ {
			if p.Asks(x) != (x == 1 || x == 2 || x == 4) {
				t.Errorf("P15.1: Asks of %d: %t", x, p.Asks(x))
			}
		}
		for _, x := range strange() {
			if p.Asks(x) {
				t.Errorf("P15.1: Asks of %d", x)
			}
		}
		p.Begin()
	}
}

// P15.1: Safe, at each order of what Poll, Keep and Silent have left.
func TestSafe(t *testing.T) {
	for poll := range 5 {
		for keep := range 5 {
			for silent := range 5 {
				for idle := range 2 {
					p := made(t, usual())
					for x, n := range map[int]int{timer.Poll: poll, timer.Keep: keep, timer.Silent: silent, timer.Idle: idle} {
						if n > 0 {
							p.Start(x, n)
						}
					}
					want := silent == 0 || 0 < poll && poll < silent || 0 < keep && keep < silent
					if p.Safe() != want {
						t.Errorf("P15.1: Safe with Poll %d, Keep %d, Silent %d left: %t", poll, keep, silent, p.Safe())
					}
				}
			}
		}
	}
}

// P15.1: behind any calls, held against the model; a clone goes its own way.
func TestAnyCalls(t *testing.T) {
	seed := uint32(3)
	rand := func(n int) int {
		seed = seed*1664525 + 1013904223
		return int(seed>>8) % n
	}
	for round := range 400 {
		silent := 2 + rand(9)
		c := Config{CC: 1 + rand(6), Poll: 1 + rand(silent-1), Keep: 1 + rand(silent-1), Silent: silent, Idle: 1 + rand(12)}
		p, m := made(t, c), newModel(c)
		var clone *Pace
		var then [5]int
		for step := range 200 {
			what := "Tick"
			if x := rand(2 * len(calls())); x < len(calls()) {
				what = calls()[x]
				do(p, what)
				m.call(what)
			} else if got, want := p.Tick(), m.tick(); !slices.Equal(got, want) {
				t.Fatalf("P15.1: round %d: %v are over, not %v", round, got, want)
			}
			same(t, fmt.Sprintf("round %d, %s", round, what), p, m)
			if step == 100 {
				clone, then = p.Clone(), [5]int(lefts(p))
			}
		}
		if [5]int(lefts(clone)) != then {
			t.Fatalf("P15.1: round %d: a clone went along: %v, not %v", round, lefts(clone), then)
		}
		was := lefts(p)
		clone.End()
		clone.Begin()
		clone.Again()
		if [5]int(lefts(clone)) != [5]int{c.CC, c.Poll, 0, c.Silent, 0} || !slices.Equal(lefts(p), was) {
			t.Fatalf("P15.1: round %d: a clone: %v, and what it is of: %v", round, lefts(clone), lefts(p))
		}
	}
}

// lefts has what each timer has left.
func lefts(p *Pace) []int {
	var l []int
	for x := range 5 {
		l = append(l, p.Left(x))
	}
	return l
}

// tried goes on from a pace, in each way that P15.2 allows, and tells of each where Silent is over.
func tried(t *testing.T, start *Pace) int {
	t.Helper()
	seen := map[[5]int]bool{}
	for now := []*Pace{start}; len(now) > 0; {
		p := now[len(now)-1]
		now = now[:len(now)-1]
		key := [5]int(lefts(p))
		if seen[key] {
			continue
		}
		seen[key] = true
		if p.Runs(timer.Idle) {
			c := p.Clone()
			c.Busy()
			now = append(now, c)
		}
		over := p.Tick()
		if slices.Contains(over, timer.Silent) {
			t.Fatalf("P15.2: Silent is over, of %+v, at %v", start.ticks, key)
		}
		if !slices.ContainsFunc(over, p.Asks) {
			now = append(now, p)
			continue
		}
		for i := range 4 {
			c := p.Clone()
			c.Polled(i&1 == 1)
			c.Answered(i&2 == 2)
			now = append(now, c)
		}
	}
	return len(seen)
}

// P15.2: while each poll is answered at once, Silent is never over, from a Safe one on.
func TestNeverSilent(t *testing.T) {
	cases := 0
	for silent := 2; silent <= 5; silent++ {
		for poll := 1; poll < silent; poll++ {
			for keep := 1; keep < silent; keep++ {
				for idle := 1; idle <= 4; idle++ {
					c := Config{CC: 1, Poll: poll, Keep: keep, Silent: silent, Idle: idle}
					for _, p := range safe(t, c) {
						cases += tried(t, p)
					}
				}
			}
		}
	}
	if cases < 10000 {
		t.Errorf("P15.2: %d cases alone", cases)
	}
}

// safe answers the paces that are Safe, of all that come of any calls.
func safe(t *testing.T, c Config) []*Pace {
	var l []*Pace
	seen := map[[5]int]bool{}
	for now := []*Pace{made(t, c)}; len(now) > 0; {
		p := now[len(now)-1]
		now = now[:len(now)-1]
		if seen[[5]int(lefts(p))] {
			continue
		}
		seen[[5]int(lefts(p))] = true
		if p.Safe() {
			l = append(l, p)
		}
		for _, what := range calls() {
			x := p.Clone()
			do(x, what)
			now = append(now, x)
		}
		x := p.Clone()
		x.Tick()
		now = append(now, x)
	}
	return l
}

// P15.2: one that isn't Safe may be silent, though each poll is answered at once.
func TestUnsafe(t *testing.T) {
	p := made(t, Config{CC: 1, Poll: 3, Keep: 3, Silent: 4, Idle: 9})
	p.Begin()
	p.Tick()
	p.Tick()
	p.Polled(false)
	if p.Safe() {
		t.Fatalf("P15.2: Safe at %v", lefts(p))
	}
	p.Tick()
	if l := p.Tick(); !slices.Equal(l, []int{timer.Silent}) {
		t.Errorf("P15.2: %v are over", l)
	}
}

// P1: no call panics, in whatever order, on the longest ticks, too.
func TestLongest(t *testing.T) {
	c := Config{CC: 1 << 20, Poll: 1<<20 - 1, Keep: 1<<20 - 1, Silent: 1 << 20, Idle: 1 << 20}
	p := made(t, c)
	p.Begin()
	for i := 1; i < 1<<20-1; i++ {
		if l := p.Tick(); len(l) != 0 {
			t.Fatalf("P15.1: %v are over at tick %d", l, i)
		}
	}
	if l := p.Tick(); !slices.Equal(l, []int{timer.Poll}) {
		t.Errorf("P15.1: %v are over", l)
	}
	p.Polled(true)
	if l := p.Tick(); !slices.Equal(l, []int{timer.Silent}) {
		t.Errorf("P15.1: %v are over", l)
	}
}
