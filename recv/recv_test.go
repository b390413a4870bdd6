package recv

import (
	"math"
	"slices"
	"strconv"
	"testing"

	"polliwog/api"
	"polliwog/send"
	"polliwog/seq"
)

const modulus = api.Modulus

// starts has numbers to start from, those about the seam and about the half among them.
func starts() []seq.Num {
	return []seq.Num{0, 1, 5, api.Half - 3, api.Half, modulus - 70, modulus - 2, modulus - 1}
}

// on is the number n further on than a.
func on(a seq.Num, n int) seq.Num {
	return seq.Num(((int(a)+n)%modulus + modulus) % modulus)
}

// dice throws numbers that are alike each time.
type dice uint64

// below throws a number from 0 on, below n.
func (d *dice) below(n int) int {
	*d = *d*6364136223846793005 + 1442695040888963407
	return int(uint64(*d)>>33) % n
}

// high throws higher bits, which don't count.
func (d *dice) high() seq.Num {
	return seq.Num(d.below(4) * d.below(60) * modulus)
}

// model is a receiver as the chapter's words say it: places are counted from the start on, and don't go round about.
type model struct {
	start    seq.Num
	window   int
	r, h, mr int
	came     map[int]string // all that ever came
	gaps     [][2]int
	taken    int
}

// both answers a receiver, and the model of it.
func both(start seq.Num, window int) (*Recv, *model) {
	return New(start, window), &model{start: start % modulus, window: window, mr: window, came: map[int]string{}}
}

func (m *model) clone() *model {
	c := *m
	c.came = map[int]string{}
	for x, s := range m.came {
		c.came[x] = s
	}
	c.gaps = slices.Clone(m.gaps)
	return &c
}

// place is which place from R on a number has.
func (m *model) place(n seq.Num) int {
	return m.r + (int(n%modulus)-int(on(m.start, m.r))+modulus)%modulus
}

func (m *model) data(n seq.Num, s string) []string {
	x := m.place(n)
	if _, is := m.came[x]; is || x >= m.mr {
		return nil
	}
	m.came[x] = s
	if x > m.h && len(m.gaps) < 8 {
		m.gaps = append(m.gaps, [2]int{m.h, x})
	}
	m.h = max(m.h, x+1)
	var l []string
	for {
		s, is := m.came[m.r]
		if !is {
			return l
		}
		l = append(l, s)
		m.r++
	}
}

func (m *model) poll(s seq.Num) api.Errno {
	if x := m.place(s); x < m.h || x > m.mr {
		return api.ErrPoll
	}
	m.h = m.place(s)
	return api.OK
}

// inbox is what came in its order, and wasn't taken.
func (m *model) inbox() []string {
	var l []string
	for x := m.taken; x < m.r; x++ {
		l = append(l, m.came[x])
	}
	return l
}

func (m *model) renew() {
	m.mr = max(m.mr, m.r+m.window-(m.r-m.taken))
}

// missing is the list of the numbers from one place on, ahead of another one, that didn't come.
func (m *model) missing(from, to int) []seq.Num {
	var l []seq.Num
	in := false
	for x := from; x <= to; x++ {
		_, is := m.came[x]
		if lacks := !is && x < to; lacks != in {
			l = append(l, on(m.start, x))
			in = lacks
		}
	}
	return l
}

func (m *model) stat() ([]seq.Num, seq.Num, seq.Num) {
	m.renew()
	return m.missing(m.r, m.h), on(m.start, m.r), on(m.start, m.mr)
}

func (m *model) gap() ([]seq.Num, seq.Num, seq.Num, bool) {
	for len(m.gaps) > 0 {
		x := m.gaps[0]
		m.gaps = m.gaps[1:]
		if l := m.missing(x[0], x[1]); len(l) > 0 {
			m.renew()
			return l[:2], on(m.start, m.r), on(m.start, m.mr), true
		}
	}
	return nil, 0, 0, false
}

func (m *model) take(n int) []string {
	l := m.inbox()
	l = l[:min(max(n, 0), len(l))]
	m.taken += len(l)
	return l
}

// same holds a receiver against the model.
func same(t *testing.T, r *Recv, m *model) {
	t.Helper()
	want := Vars{
		R: on(m.start, m.r), H: on(m.start, m.h), MR: on(m.start, m.mr),
		Buffered: len(m.came) - m.r, Inbox: m.r - m.taken, Gaps: len(m.gaps),
	}
	if got := r.Vars(); got != want {
		t.Fatalf("P12.1: %+v, not %+v", got, want)
	}
}

// bounds asks whether R, H, MR, the buffer and the inbox are as they must be.
func bounds(t *testing.T, r *Recv, window int) {
	t.Helper()
	v := r.Vars()
	high, far := (int(v.H)-int(v.R)+modulus)%modulus, (int(v.MR)-int(v.R)+modulus)%modulus
	if high > far || far > window || v.Buffered+v.Inbox > window || v.Gaps > 8 {
		t.Fatalf("P12.2: window %d: %+v", window, v)
	}
}

// asked makes both tell what is missing, by Stat.
func asked(t *testing.T, r *Recv, m *model) {
	t.Helper()
	l, n, mr := r.Stat()
	if l2, n2, mr2 := m.stat(); !slices.Equal(l, l2) || n != n2 || mr != mr2 {
		t.Fatalf("P12.4: Stat: %v, %d, %d, not %v, %d, %d", l, n, mr, l2, n2, mr2)
	}
	same(t, r, m)
}

// told makes both tell a gap.
func told(t *testing.T, r *Recv, m *model) bool {
	t.Helper()
	l, n, mr, ok := r.Gap()
	if l2, n2, mr2, ok2 := m.gap(); !slices.Equal(l, l2) || n != n2 || mr != mr2 || ok != ok2 {
		t.Fatalf("P12.4: Gap: %v, %d, %d, %t, not %v, %d, %d, %t", l, n, mr, ok, l2, n2, mr2, ok2)
	}
	same(t, r, m)
	return ok
}

// comes makes a unit come to both, of a place counted from the start on.
func comes(t *testing.T, r *Recv, m *model, x int, s string) {
	t.Helper()
	n := on(m.start, x)
	got := r.Data(n, s)
	if want := m.data(n, s); !slices.Equal(got, want) {
		t.Fatalf("P12.3: Data(%d): %q, not %q", n, got, want)
	}
	same(t, r, m)
}

// polled makes both hear how far the other end has come.
func polled(t *testing.T, r *Recv, m *model, x int) {
	t.Helper()
	n := on(m.start, x)
	got := r.Poll(n)
	if want := m.poll(n); got != want {
		t.Fatalf("P12.1: Poll(%d): code %d, not %d", n, got, want)
	}
	same(t, r, m)
}

// taken takes of both.
func taken(t *testing.T, r *Recv, m *model, n int) {
	t.Helper()
	got := r.Take(n)
	if want := m.take(n); !slices.Equal(got, want) {
		t.Fatalf("P12.3: Take(%d): %q, not %q", n, got, want)
	}
	same(t, r, m)
}

// step makes both do the same, thrown by dice.
func step(t *testing.T, r *Recv, m *model, d *dice) {
	t.Helper()
	switch d.below(14) {
	case 0:
		asked(t, r, m)
	case 1, 2:
		told(t, r, m)
	case 3:
		x := m.h + d.below(4) - d.below(10)/9
		n := on(m.start, x) + d.high()
		if got, want := r.Poll(n), m.poll(n); got != want {
			t.Fatalf("P12.1: Poll(%d): code %d, not %d", n, got, want)
		}
	case 4, 5:
		taken(t, r, m, d.below(7)-1)
	case 6, 7:
		// The one that is wanted, so that it goes on.
		comes(t, r, m, m.r, strconv.Itoa(d.below(1000)))
	default:
		n := on(m.start, m.r+d.below(m.window+3)-1) + d.high()
		s := strconv.Itoa(d.below(1000))
		got := r.Data(n, s)
		if want := m.data(n, s); !slices.Equal(got, want) {
			t.Fatalf("P12.3: Data(%d): %q, not %q", n, got, want)
		}
	}
}

// P12.1 to P12.4: any calls, one behind the other, held against the model.
func TestAnyCalls(t *testing.T) {
	for _, start := range starts() {
		for _, window := range []int{1, 2, 3, 5, 9, 20, 40, 64} {
			d := dice(window)
			r, m := both(start+d.high(), window)
			for range 3000 {
				if d.below(40) == 0 {
					r = r.Clone()
				}
				step(t, r, m, &d)
				same(t, r, m)
				bounds(t, r, window)
			}
		}
	}
}

// P12.1: the chapter's example.
func TestExample(t *testing.T) {
	r := New(0, 4)
	if l := r.Data(1, "b"); len(l) != 0 {
		t.Errorf("P12.3: %q", l)
	}
	if v := r.Vars(); v != (Vars{R: 0, H: 2, MR: 4, Buffered: 1, Gaps: 1}) {
		t.Errorf("P12.1: %+v", v)
	}
	c := r.Clone()
	if l, n, mr, ok := c.Gap(); !slices.Equal(l, []seq.Num{0, 1}) || n != 0 || mr != 4 || !ok {
		t.Errorf("P12.4: %v, %d, %d, %t", l, n, mr, ok)
	}
	if l, n, mr, ok := c.Gap(); len(l) != 0 || n != 0 || mr != 0 || ok {
		t.Errorf("P12.4: twice: %v, %d, %d, %t", l, n, mr, ok)
	}
	if l := r.Data(0, "a"); !slices.Equal(l, []string{"a", "b"}) {
		t.Errorf("P12.3: %q", l)
	}
	if v := r.Vars(); v != (Vars{R: 2, H: 2, MR: 4, Inbox: 2, Gaps: 1}) {
		t.Errorf("P12.1: %+v", v)
	}
	if l, _, _, ok := r.Gap(); len(l) != 0 || ok || r.Vars().Gaps != 0 {
		t.Errorf("P12.4: what came: %v, %t", l, ok)
	}
}

// P12.1: a new one has nothing but its start; the window is brought among 1 to 64.
func TestNew(t *testing.T) {
	for _, start := range []seq.Num{0, 7, modulus - 1, modulus, modulus + 9, math.MaxUint32} {
		for n, want := range map[int]int{math.MinInt: 1, -1: 1, 0: 1, 1: 1, 2: 2, 63: 63, 64: 64, 65: 64, math.MaxInt: 64} {
			r := New(start, n)
			m := &model{start: start % modulus, window: want, mr: want, came: map[int]string{}}
			same(t, r, m)
			asked(t, r, m)
			told(t, r, m)
			taken(t, r, m, 3)
			for x := range want + 2 {
				comes(t, r, m, x, "x")
			}
			bounds(t, r, want)
		}
	}
}

// P12.2: what isn't from R on, ahead of MR, changes nothing; what came neither.
func TestOutside(t *testing.T) {
	for _, start := range starts() {
		r, m := both(start, 5)
		comes(t, r, m, 0, "a")
		comes(t, r, m, 1, "b")
		comes(t, r, m, 3, "d")
		was := r.Vars()
		for _, x := range []int{0, 1, 3, 5, 6, 7, 64, -1, -2, api.Half, api.Half + 2, modulus - 1, modulus, modulus + 1, modulus + 3} {
			if l := r.Data(on(start, x)+7*modulus, "z"); len(l) != 0 || r.Vars() != was {
				t.Errorf("P12.2: Data %d: %q, %+v", x, l, r.Vars())
			}
		}
		// The first one that came is the one that stays.
		if l := r.Data(on(start, 2)+modulus, "c"); !slices.Equal(l, []string{"c", "d"}) {
			t.Errorf("P12.3: %q", l)
		}
		if l := r.Data(on(start, 4), "e"); !slices.Equal(l, []string{"e"}) {
			t.Errorf("P12.3: %q", l)
		}
		if l := r.Data(on(start, 5), "f"); len(l) != 0 {
			t.Errorf("P12.2: beyond the window: %q", l)
		}
		if l := r.Take(9); !slices.Equal(l, []string{"a", "b", "c", "d", "e"}) {
			t.Errorf("P12.3: %q", l)
		}
	}
}

// P12.1: a poll is from H on, up to MR; one that isn't changes nothing.
func TestPoll(t *testing.T) {
	for _, start := range starts() {
		r, m := both(start, 6)
		comes(t, r, m, 0, "a")
		comes(t, r, m, 2, "c")
		for _, x := range []int{2, 1, 0, -1, 7, 8, api.Half, modulus - 1, modulus, modulus + 2} {
			was := r.Vars()
			if code := r.Poll(on(start, x) + 3*modulus); code != api.ErrPoll || r.Vars() != was {
				t.Errorf("P12.1: Poll %d: code %d, %+v", x, code, r.Vars())
			}
		}
		for _, x := range []int{3, 3, 4, 6, 6} {
			if code := r.Poll(on(start, x) + 3*modulus); code != api.OK || r.Vars().H != on(start, x) {
				t.Errorf("P12.1: Poll %d: code %d, %+v", x, code, r.Vars())
			}
			m.poll(on(start, x))
			same(t, r, m)
		}
		polled(t, r, m, 5)
		// What a poll leaps over is no gap to be told; Stat names it.
		if v := r.Vars(); v.Gaps != 1 {
			t.Errorf("P12.1: %+v", v)
		}
		if l, n, mr := r.Stat(); !slices.Equal(l, []seq.Num{on(start, 1), on(start, 2), on(start, 3), on(start, 6)}) || n != on(start, 1) || mr != on(start, 6) {
			t.Errorf("P12.4: %v, %d, %d", l, n, mr)
		}
	}
}

// P12.2: MR is what the window has room for besides the inbox; it is renewed by Stat, and by a Gap that tells one, alone.
func TestCredit(t *testing.T) {
	for _, start := range starts() {
		r, m := both(start, 4)
		mr := func(want int) {
			t.Helper()
			if got := r.Vars().MR; got != on(start, want) {
				t.Fatalf("P12.2: from %d on, MR %d, not %d", start, got, on(start, want))
			}
		}
		comes(t, r, m, 0, "a")
		comes(t, r, m, 1, "b")
		asked(t, r, m)
		mr(4)
		taken(t, r, m, 1)
		told(t, r, m)
		mr(4)
		asked(t, r, m)
		mr(5)
		taken(t, r, m, 1)
		comes(t, r, m, 3, "d")
		polled(t, r, m, 5)
		mr(5)
		if !told(t, r, m) {
			t.Fatal("P12.4: no gap")
		}
		mr(6)
		comes(t, r, m, 2, "c")
		comes(t, r, m, 4, "e")
		comes(t, r, m, 5, "f")
		asked(t, r, m)
		mr(6)
		if v := r.Vars(); v.R != v.MR || v.Inbox != 4 {
			t.Fatalf("P12.2: %+v", v)
		}
		comes(t, r, m, 6, "g")
		taken(t, r, m, 4)
		comes(t, r, m, 6, "g")
		asked(t, r, m)
		mr(10)
		bounds(t, r, 4)
	}
}

// P12.4: gaps are told by their age, each once, as far as they still lie together; those that came are passed over.
func TestGaps(t *testing.T) {
	for _, start := range starts() {
		r, m := both(start, 40)
		for _, x := range []int{5, 8, 9, 12, 14} {
			comes(t, r, m, x, "x")
		}
		// The first gap has lost its first and a middle one, the second one all.
		for _, x := range []int{0, 3, 7, 6} {
			comes(t, r, m, x, "x")
		}
		if v := r.Vars(); v.Gaps != 4 || v.R != on(start, 1) {
			t.Fatalf("P12.1: %+v", v)
		}
		for _, want := range [][]seq.Num{{on(start, 1), on(start, 3)}, {on(start, 10), on(start, 12)}, {on(start, 13), on(start, 14)}} {
			c := r.Clone()
			if l, n, mr, ok := c.Gap(); !slices.Equal(l, want) || n != on(start, 1) || mr != on(start, 40) || !ok {
				t.Fatalf("P12.4: %v, %d, %d, %t, not %v", l, n, mr, ok, want)
			}
			told(t, r, m)
		}
		if told(t, r, m) {
			t.Fatal("P12.4: one more gap")
		}
	}
}

// P12.1: there are at most 8 gaps; H goes on nevertheless, and Stat names all that is missing.
func TestManyGaps(t *testing.T) {
	for _, start := range starts() {
		r, m := both(start, 64)
		for i := range 12 {
			comes(t, r, m, 3*i+2, "x")
			if v := r.Vars(); v.Gaps != min(i+1, 8) || v.H != on(start, 3*i+3) {
				t.Fatalf("P12.1: %+v", v)
			}
		}
		l, _, _ := r.Clone().Stat()
		if len(l) != 24 {
			t.Fatalf("P12.4: %v", l)
		}
		asked(t, r, m)
		told(t, r, m)
		comes(t, r, m, 40, "y")
		comes(t, r, m, 50, "z")
		for i := range 9 {
			if told(t, r, m) != (i < 8) {
				t.Fatalf("P12.4: gap %d", i)
			}
		}
	}
}

// P12.4: gaps that came are still counted till they are asked for, and take room from others.
func TestOldGaps(t *testing.T) {
	r, m := both(modulus-9, 64)
	for i := range 8 {
		comes(t, r, m, 2*i+1, "x")
		comes(t, r, m, 2*i, "x")
	}
	comes(t, r, m, 17, "x")
	if v := r.Vars(); v.Gaps != 8 {
		t.Fatalf("P12.1: %+v", v)
	}
	if told(t, r, m) || r.Vars().Gaps != 0 {
		t.Fatal("P12.4: what came is told")
	}
	asked(t, r, m)
}

// P12.4: a gap that came long ago isn't there again when its numbers come round again.
func TestGapsGoNotRound(t *testing.T) {
	r := New(0, 64)
	r.Data(3, "x")
	for n := range seq.Num(modulus) {
		r.Data(n, "")
		if n%32 == 31 {
			r.Take(64)
			r.Stat()
		}
	}
	if v := r.Vars(); v != (Vars{R: 0, H: 0, MR: 64, Gaps: 1}) {
		t.Fatalf("P12.1: %+v", v)
	}
	r.Poll(5)
	if l, _, _, ok := r.Gap(); ok {
		t.Errorf("P12.4: %v", l)
	}
	r.Data(8, "x")
	if l, _, _, ok := r.Gap(); !ok || !slices.Equal(l, []seq.Num{5, 8}) {
		t.Errorf("P12.4: %v", l)
	}
}

// P12.3: Take answers the first ones, at most as many as there are.
func TestTake(t *testing.T) {
	for _, n := range []int{math.MinInt, -1, 0, 1, 2, 3, 4, 64, math.MaxInt} {
		r, m := both(modulus-1, 5)
		for x, s := range []string{"a", "b", "c"} {
			comes(t, r, m, x, s)
		}
		if l := r.Clone().Take(n); !slices.Equal(l, []string{"a", "b", "c"}[:min(max(n, 0), 3)]) {
			t.Errorf("P12.3: Take(%d): %q", n, l)
		}
		taken(t, r, m, n)
		taken(t, r, m, 64)
		taken(t, r, m, 64)
	}
}

// P12.1: a clone is just like it, and goes its own way.
func TestClone(t *testing.T) {
	for seed := range 40 {
		d := dice(seed)
		r, m := both(modulus-5, 9)
		for range 3 * seed {
			step(t, r, m, &d)
		}
		c, k := r.Clone(), m.clone()
		same(t, c, k)
		for range 60 {
			step(t, c, k, &d)
			same(t, r, m)
			step(t, r, m, &d)
			same(t, c, k)
		}
	}
}

// P12.1: gaps of one aren't its clone's, though there is spare room.
func TestCloneGaps(t *testing.T) {
	for n := range 7 {
		r, m := both(0, 64)
		for i := range n {
			comes(t, r, m, 2*i+1, "x")
		}
		c, k := r.Clone(), m.clone()
		comes(t, r, m, 30, "y")
		polled(t, c, k, 20)
		comes(t, c, k, 40, "z")
		for range n + 2 {
			told(t, r, m)
			told(t, c, k)
		}
	}
}

// Rule 5: answers share no memory with one another, nor with what is kept.
func TestMemory(t *testing.T) {
	r := New(0, 9)
	r.Data(2, "c")
	r.Data(1, "b")
	l := r.Data(0, "a")
	l[0] = "z"
	_ = append(l[:1], "y")
	c := r.Clone()
	first := c.Take(2)
	first[0] = "z"
	_ = append(first, "y")
	if got := r.Take(9); !slices.Equal(got, []string{"a", "b", "c"}) {
		t.Errorf("rule 5: %q", got)
	}
	if got := c.Take(9); !slices.Equal(got, []string{"c"}) {
		t.Errorf("rule 5: %q", got)
	}
	r.Data(5, "f")
	named, _, _ := r.Stat()
	named[0] = 77
	if again, _, _ := r.Stat(); !slices.Equal(again, []seq.Num{3, 5}) {
		t.Errorf("rule 5: %v", again)
	}
}

// P1: each call ends, at any values of its arguments' types, and leaves numbers of 24 bits.
func TestCallsEnd(t *testing.T) {
	edges := []seq.Num{0, 1, 3, api.Half - 1, api.Half, api.Half + 1, modulus - 1, modulus, modulus + 1, 1 << 31, math.MaxUint32}
	for _, start := range edges {
		for _, window := range []int{math.MinInt, 1, 7, math.MaxInt} {
			r := New(start, window)
			for _, a := range edges {
				for _, b := range edges {
					r.Data(a, "")
					r.Poll(b)
					r.Data(b+2, "x")
					r.Gap()
					r.Stat()
					r.Take(int(a) - int(b))
					bounds(t, r, min(max(window, 1), 64))
					if v := r.Vars(); v.R >= modulus || v.H >= modulus || v.MR >= modulus {
						t.Fatalf("P1: %+v", v)
					}
				}
			}
		}
	}
}

// talk moves messages from a sender to a receiver over ways that lose units, till all are taken, and answers what was taken.
func talk(t *testing.T, s *send.Send, r *Recv, d *dice, all []string) []string {
	t.Helper()
	var got []string
	for range 100000 {
		for len(all) > 0 && s.Put(all[0]) == api.OK {
			all = all[1:]
		}
		if n, m, _, ok := s.Next(); ok && d.below(3) > 0 {
			r.Data(n, m)
		}
		if l, n, mr, ok := r.Gap(); ok && d.below(3) > 0 {
			if _, code := s.Ustat(n, mr, l); code != api.OK {
				t.Fatalf("P11.4: Ustat(%d, %d, %v): code %d", n, mr, l, code)
			}
		}
		if s.Due() || d.below(9) == 0 {
			asks(t, s, r, d)
		}
		got = append(got, r.Take(d.below(3))...)
		if s.Idle() && len(all) == 0 && r.Vars().Inbox == 0 {
			return got
		}
	}
	t.Fatalf("P12.3: no end: %+v, %+v", s.Vars(), r.Vars())
	return nil
}

// asks makes a poll go out, and its status come back, if neither is lost.
func asks(t *testing.T, s *send.Send, r *Recv, d *dice) {
	t.Helper()
	ps, n := s.Poll()
	if d.below(3) == 0 {
		return
	}
	if code := r.Poll(n); code != api.OK {
		t.Fatalf("P12.1: Poll(%d): code %d", n, code)
	}
	l, n, mr := r.Stat()
	if d.below(3) == 0 {
		return
	}
	if _, code := s.Stat(n, mr, ps, l); code != api.OK {
		t.Fatalf("P11.4: Stat(%d, %d, %d, %v): code %d", n, mr, ps, l, code)
	}
}

// P2, P11.3, P12.3: a sender and a receiver that lose units of each other bring all messages over, in order, each once.
func TestTogether(t *testing.T) {
	var all []string
	for i := range 300 {
		all = append(all, strconv.Itoa(i))
	}
	for _, start := range starts() {
		for _, window := range []int{1, 2, 7, 64} {
			d := dice(window)
			s, r := send.New(start, 20, 1+d.below(9)), New(start, window)
			s.Open(on(start, window))
			if got := talk(t, s, r, &d, all); !slices.Equal(got, all) {
				t.Fatalf("P2: %q", got)
			}
		}
	}
}
