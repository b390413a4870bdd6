package timer

import (
	"math"
	"slices"
	"testing"
)

// strange has numbers that are no timer's.
func strange() []int {
	return []int{-1, 5, 6, -5, 255, 256, 1 << 32, 1<<32 + 1, math.MinInt, math.MaxInt}
}

// starts has ticks with which a timer may be started, and as how many they count.
func starts() map[int]int {
	return map[int]int{
		1: 1, 2: 2, 17: 17, 1<<20 - 1: 1<<20 - 1, 1 << 20: 1 << 20,
		0: 1, -1: 1, -1 << 20: 1, math.MinInt: 1,
		1<<20 + 1: 1 << 20, 1 << 32: 1 << 20, 1<<32 + 5: 1 << 20, math.MaxInt: 1 << 20,
	}
}

// model has the tick at which a timer that runs is over, of each: another way to count than the one down to none.
type model struct {
	now  int
	over map[int]int
}

// tick answers those that are over at the next tick.
func (m *model) tick() []int {
	m.now++
	var l []int
	for t := range 5 {
		if at, runs := m.over[t]; runs && at == m.now {
			l = append(l, t)
			delete(m.over, t)
		}
	}
	return l
}

// next answers in how many ticks the next one is over.
func (m *model) next() (int, bool) {
	for d := 1; len(m.over) > 0; d++ {
		for _, at := range m.over {
			if at == m.now+d {
				return d, true
			}
		}
	}
	return 0, false
}

// same holds a bank against the model, by each call that changes nothing.
func same(t *testing.T, b *Bank, m *model) {
	t.Helper()
	for x := -2; x < 8; x++ {
		at, runs := m.over[x]
		left := 0
		if runs {
			left = at - m.now
		}
		if b.Runs(x) != runs || b.Left(x) != left {
			t.Fatalf("P8.1: timer %d: runs %t, %d left, not %t, %d", x, b.Runs(x), b.Left(x), runs, left)
		}
	}
	next, ok := b.Next()
	if want, runs := m.next(); next != want || ok != runs {
		t.Fatalf("P8.1: Next: %d, %t, not %d, %t", next, ok, want, runs)
	}
}

// none asks that no timer of a bank runs.
func none(t *testing.T, b *Bank, what string) {
	t.Helper()
	same(t, b, &model{})
	if l := b.Tick(); len(l) != 0 {
		t.Errorf("P8.1: %s: %v are over", what, l)
	}
	same(t, b, &model{})
}

// P8.1: the timers' numbers.
func TestNumbers(t *testing.T) {
	if CC != 0 || Poll != 1 || Keep != 2 || Silent != 3 || Idle != 4 {
		t.Errorf("P8.1: %d %d %d %d %d", CC, Poll, Keep, Silent, Idle)
	}
}

// P8.1: the chapter's example.
func TestExample(t *testing.T) {
	var b Bank
	b.Start(Poll, 2)
	b.Start(CC, 2)
	if l := b.Tick(); len(l) != 0 {
		t.Errorf("P8.1: the first tick: %v", l)
	}
	if l := b.Tick(); !slices.Equal(l, []int{CC, Poll}) {
		t.Errorf("P8.1: the second tick: %v", l)
	}
	none(t, &b, "behind the second tick")
}

// P8.1: of a zero bank none runs.
func TestZero(t *testing.T) {
	none(t, &Bank{}, "a zero bank")
}

// P8.1: Start counts as with 1 to 2^20 ticks, also of one that runs.
func TestStart(t *testing.T) {
	for x := range 5 {
		var again Bank
		for ticks, want := range starts() {
			var b Bank
			b.Start(x, ticks)
			again.Start(x, ticks)
			same(t, &b, &model{over: map[int]int{x: want}})
			same(t, &again, &model{over: map[int]int{x: want}})
		}
	}
}

// P8.1: Stop, of one that runs and of one that doesn't; the others go on.
func TestStop(t *testing.T) {
	for x := range 5 {
		var b Bank
		m := &model{over: map[int]int{}}
		for y := range 5 {
			b.Start(y, 3+y)
			m.over[y] = 3 + y
		}
		b.Stop(x)
		delete(m.over, x)
		same(t, &b, m)
		b.Stop(x)
		same(t, &b, m)
		for range 9 {
			if got, want := b.Tick(), m.tick(); !slices.Equal(got, want) {
				t.Fatalf("P8.1: behind Stop of %d: %v, not %v", x, got, want)
			}
			same(t, &b, m)
		}
	}
}

// P8.1: of another number than these five nothing.
func TestStrange(t *testing.T) {
	for _, x := range strange() {
		var b Bank
		b.Start(x, 1)
		b.Stop(x)
		none(t, &b, "no such timer")
		b.Start(Keep, 4)
		b.Start(x, 1)
		b.Stop(x)
		same(t, &b, &model{over: map[int]int{Keep: 4}})
		if b.Runs(x) || b.Left(x) != 0 {
			t.Errorf("P8.1: timer %d: runs %t, %d left", x, b.Runs(x), b.Left(x))
		}
	}
}

// P8.1: those that are over at one tick come by rising numbers, in whatever order they were started.
func TestRising(t *testing.T) {
	for _, order := range [][]int{{0, 1, 2, 3, 4}, {4, 3, 2, 1, 0}, {2, 4, 0, 3, 1}, {3, 1}, {4, 0, 2}} {
		var b Bank
		for _, x := range order {
			b.Start(x, 1)
		}
		want := slices.Sorted(slices.Values(order))
		if got := b.Tick(); !slices.Equal(got, want) {
			t.Errorf("P8.1: %v, not %v", got, want)
		}
		none(t, &b, "behind the tick of all")
	}
}

// P8.1: Next is the least of all that run.
func TestNext(t *testing.T) {
	var b Bank
	for x := range 5 {
		b.Start(x, 10-x)
		if n, ok := b.Next(); n != 10-x || !ok {
			t.Errorf("P8.1: Next: %d, %t", n, ok)
		}
	}
	for x := 4; x >= 0; x-- {
		if n, ok := b.Next(); n != 10-x || !ok {
			t.Errorf("P8.1: Next: %d, %t, not %d", n, ok, 10-x)
		}
		b.Stop(x)
	}
	if n, ok := b.Next(); n != 0 || ok {
		t.Errorf("P8.1: Next of none: %d, %t", n, ok)
	}
	b.Start(Silent, 1<<20)
	if n, ok := b.Next(); n != 1<<20 || !ok {
		t.Errorf("P8.1: Next of the longest: %d, %t", n, ok)
	}
}

// P8.1: Clear, of all and of none.
func TestClear(t *testing.T) {
	var b Bank
	b.Clear()
	none(t, &b, "none, cleared")
	for x := range 5 {
		b.Start(x, 1)
	}
	b.Clear()
	none(t, &b, "all, cleared")
	b.Start(Idle, 2)
	same(t, &b, &model{over: map[int]int{Idle: 2}})
}

// P8.1: a bank that is copied goes its own way.
func TestCopy(t *testing.T) {
	var b Bank
	b.Start(Poll, 2)
	b.Start(Keep, 3)
	c := b
	b.Tick()
	b.Stop(Keep)
	same(t, &c, &model{over: map[int]int{Poll: 2, Keep: 3}})
	c.Start(CC, 9)
	c.Clear()
	same(t, &b, &model{over: map[int]int{Poll: 1}})
	d := b
	if x, y := b.Tick(), d.Tick(); !slices.Equal(x, []int{Poll}) || !slices.Equal(y, []int{Poll}) {
		t.Errorf("P8.1: %v, %v", x, y)
	}
}

// P8.2: a timer that is let alone is over at the tick that was told, and then only.
func TestOver(t *testing.T) {
	for ticks, want := range starts() {
		for x := range 5 {
			var b Bank
			b.Start(x, ticks)
			for i := 1; i < want; i++ {
				if l := b.Tick(); len(l) != 0 || !b.Runs(x) {
					t.Fatalf("P8.2: timer %d of %d ticks: %v are over at tick %d", x, ticks, l, i)
				}
			}
			if l := b.Tick(); !slices.Equal(l, []int{x}) || b.Runs(x) {
				t.Fatalf("P8.2: timer %d of %d ticks: %v are over at tick %d", x, ticks, l, want)
			}
			for range 20 {
				none(t, &b, "behind the last tick")
			}
		}
	}
}

// P8.2: likewise, whatever is done with the others.
func TestOverAmongOthers(t *testing.T) {
	seed := uint32(1)
	rand := func(n int) int {
		seed = seed*1664525 + 1013904223
		return int(seed>>8) % n
	}
	for round := range 2000 {
		var b Bank
		x, ticks := rand(5), 1+rand(40)
		b.Start(x, ticks)
		for i := 1; i <= ticks+50; i++ {
			other := (x + 1 + rand(4)) % 5
			if rand(3) == 0 {
				b.Stop(other)
			} else {
				b.Start(other, rand(12)-2)
			}
			if l := b.Tick(); slices.Contains(l, x) != (i == ticks) || b.Runs(x) != (i < ticks) {
				t.Fatalf("P8.2: round %d: timer %d of %d ticks at tick %d: %v are over", round, x, ticks, i, l)
			}
		}
	}
}

// P8.1: behind any calls, held against the model.
func TestAnyCalls(t *testing.T) {
	seed := uint32(7)
	rand := func(n int) int {
		seed = seed*1664525 + 1013904223
		return int(seed>>8) % n
	}
	for range 300 {
		var b Bank
		m := &model{over: map[int]int{}}
		for range 300 {
			switch x := rand(7) - 1; rand(8) {
			case 0, 1:
				ticks := rand(25) - 3
				b.Start(x, ticks)
				if 0 <= x && x <= 4 {
					m.over[x] = m.now + max(ticks, 1)
				}
			case 2:
				b.Stop(x)
				delete(m.over, x)
			case 3:
				if rand(10) == 0 {
					b.Clear()
					clear(m.over)
				}
			default:
				if got, want := b.Tick(), m.tick(); !slices.Equal(got, want) {
					t.Fatalf("P8.1: Tick: %v, not %v", got, want)
				}
			}
			same(t, &b, m)
		}
	}
}

// Rule 5: what Tick answers is new memory.
func TestTickIsNew(t *testing.T) {
	var b Bank
	b.Start(CC, 1)
	b.Start(Idle, 1)
	c := b
	l := b.Tick()
	l[0], l[1] = 77, 78
	if got := c.Tick(); !slices.Equal(got, []int{CC, Idle}) {
		t.Errorf("rule 5: %v", got)
	}
	same(t, &b, &model{})
}
