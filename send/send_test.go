package send

import (
	"math"
	"reflect"
	"slices"
	"strconv"
	"testing"

	"polliwog/api"
	"polliwog/seq"
)

const (
	modulus = api.Modulus
	half    = api.Half
)

// starts has numbers to start from, those about the seam and about the half among them.
func starts() []seq.Num {
	return []seq.Num{0, 1, 5, half - 3, half, modulus - 70, modulus - 2, modulus - 1}
}

// on is the number n further on than a.
func on(a seq.Num, n int) seq.Num {
	return seq.Num(((int(a)+n)%modulus + modulus) % modulus)
}

// way is how far one has to go on from a to b.
func way(a, b seq.Num) int {
	return (int(b%modulus) - int(a%modulus) + modulus) % modulus
}

// dice throws numbers that are alike each time.
type dice uint64

// below throws a number from 0 on, below n.
func (d *dice) below(n int) int {
	*d = *d*6364136223846793005 + 1442695040888963407
	return int(uint64(*d)>>33) % n
}

// high throws higher bits, which don't count.
func (d *dice) high() seq.Num {
	return seq.Num(d.below(4) * d.below(60) * modulus)
}

// out is a message that went out.
type out struct {
	n     seq.Num
	m     string
	ps    seq.Num
	again bool
}

// model is a sender as the chapter's words say it: all in one list, gone through each time.
type model struct {
	s, a, ms, ps, pa    seq.Num
	queue, polls, units int
	waits               []string
	buffer              []out
}

// both answers a sender, and the model of it.
func both(start seq.Num, queue, polls int) (*Send, *model) {
	low := start % modulus
	return New(start, queue, polls), &model{s: low, a: low, ms: low, ps: low, pa: low, queue: queue, polls: polls}
}

func (m *model) clone() *model {
	c := *m
	c.waits, c.buffer = slices.Clone(m.waits), slices.Clone(m.buffer)
	return &c
}

func (m *model) open(ms seq.Num) {
	if way(m.a, ms) <= half && way(m.a, ms) >= way(m.a, m.ms) {
		m.ms = ms % modulus
	}
}

func (m *model) put(x string) api.Errno {
	if len(m.waits) == m.queue {
		return api.ErrFull
	}
	m.waits = append(m.waits, x)
	return api.OK
}

func (m *model) next() (seq.Num, string, bool, bool) {
	for i, x := range m.buffer {
		if x.again {
			m.buffer[i].again, m.buffer[i].ps = false, m.ps
			m.units++
			return x.n, x.m, false, true
		}
	}
	if len(m.waits) == 0 || m.s == m.ms {
		return 0, "", false, false
	}
	x := out{n: m.s, m: m.waits[0], ps: m.ps}
	m.waits, m.buffer, m.s = m.waits[1:], append(m.buffer, x), on(m.s, 1)
	m.units++
	return x.n, x.m, true, true
}

func (m *model) poll() (seq.Num, seq.Num) {
	m.ps, m.units = on(m.ps, 1), 0
	return m.ps, m.s
}

// may is whether a report's numbers can be.
func (m *model) may(r seq.Num, l []seq.Num) bool {
	ok := way(m.a, r) <= way(m.a, m.s) && len(l)%2 == 0
	for i, x := range l {
		ok = ok && way(r, x) <= way(r, m.s) && (i == 0 || way(r, x) > way(r, l[i-1]))
	}
	return ok
}

// report does what an accepted report says; each number counts by what due says of the poll behind which it went out last.
func (m *model) report(r, mr seq.Num, l []seq.Num, due func(ps seq.Num) bool) int {
	gone := way(m.a, r)
	m.buffer, m.a = m.buffer[gone:], r%modulus
	m.open(mr)
	count := 0
	for i, x := range m.buffer {
		named := false
		for j := 0; j < len(l); j += 2 {
			named = named || way(r, l[j]) <= way(r, x.n) && way(r, x.n) < way(r, l[j+1])
		}
		if named && !x.again && due(x.ps) {
			m.buffer[i].again = true
			count++
		}
	}
	return count
}

func (m *model) stat(r, mr, ps seq.Num, l []seq.Num) (int, api.Errno) {
	if way(m.pa, ps) > way(m.pa, m.ps) {
		return 0, api.ErrStat
	}
	if !m.may(r, l) {
		return 0, api.ErrList
	}
	m.pa = ps % modulus
	return m.report(r, mr, l, func(last seq.Num) bool { return way(last, ps) > 0 && way(last, ps) < half }), api.OK
}

func (m *model) ustat(r, mr seq.Num, l []seq.Num) (int, api.Errno) {
	if !m.may(r, l) {
		return 0, api.ErrGap
	}
	return m.report(r, mr, l, func(seq.Num) bool { return true }), api.OK
}

// again is what is to go again.
func (m *model) again() []seq.Num {
	var l []seq.Num
	for _, x := range m.buffer {
		if x.again {
			l = append(l, x.n)
		}
	}
	return l
}

// left is what isn't acknowledged.
func (m *model) left() []string {
	var l []string
	for _, x := range m.buffer {
		l = append(l, x.m)
	}
	return append(l, m.waits...)
}

// same holds a sender against the model, by each call that changes nothing.
func same(t *testing.T, s *Send, m *model) {
	t.Helper()
	want := Vars{S: m.s, A: m.a, MS: m.ms, PS: m.ps, PA: m.pa, Polls: m.units, Queued: len(m.waits), Kept: len(m.buffer), Again: m.again()}
	got := s.Vars()
	if !slices.Equal(got.Again, want.Again) {
		t.Fatalf("P11.1: to go again %v, not %v", got.Again, want.Again)
	}
	got.Again, want.Again = nil, nil
	if !reflect.DeepEqual(got, want) {
		t.Fatalf("P11.1: %+v, not %+v", got, want)
	}
	if l := s.Left(); !slices.Equal(l, m.left()) {
		t.Fatalf("P11.1: Left: %q, not %q", l, m.left())
	}
	if s.Due() != (m.units >= m.polls) {
		t.Fatalf("P11.1: Due behind %d units, of %d: %t", m.units, m.polls, s.Due())
	}
	if s.Idle() != (len(m.waits)+len(m.buffer) == 0) || s.Lacks() != (len(m.waits) > 0 && m.s == m.ms) {
		t.Fatalf("P11.1: idle %t, lacks %t", s.Idle(), s.Lacks())
	}
}

// bounds asks whether S, A, MS and the buffer stand as they must.
func bounds(t *testing.T, s *Send) {
	t.Helper()
	v := s.Vars()
	if way(v.A, v.S) > way(v.A, v.MS) || way(v.A, v.MS) > half || v.Kept != way(v.A, v.S) {
		t.Fatalf("P11.2: A %d, S %d, MS %d, %d in the buffer", v.A, v.S, v.MS, v.Kept)
	}
	for i, n := range v.Again {
		if way(v.A, n) >= way(v.A, v.S) || i > 0 && way(v.A, n) <= way(v.A, v.Again[i-1]) {
			t.Fatalf("P11.2: A %d, S %d, to go again %v", v.A, v.S, v.Again)
		}
	}
}

// step makes both do the same, thrown by dice.
func step(t *testing.T, s *Send, m *model, d *dice) {
	t.Helper()
	switch d.below(12) {
	case 0, 1:
		x := strconv.Itoa(d.below(1000))
		if got, want := s.Put(x), m.put(x); got != want {
			t.Fatalf("P11.1: Put: code %d, not %d", got, want)
		}
	case 2, 3, 4, 5:
		n, x, fresh, ok := s.Next()
		if n2, x2, fresh2, ok2 := m.next(); n != n2 || x != x2 || fresh != fresh2 || ok != ok2 {
			t.Fatalf("P11.3: Next: %d %q %t %t, not %d %q %t %t", n, x, fresh, ok, n2, x2, fresh2, ok2)
		}
	case 6:
		ps, n := s.Poll()
		if ps2, n2 := m.poll(); ps != ps2 || n != n2 {
			t.Fatalf("P11.1: Poll: %d, %d, not %d, %d", ps, n, ps2, n2)
		}
	case 7:
		ms := on(m.a, d.below(20)-2) + d.high()
		s.Open(ms)
		m.open(ms)
	default:
		reported(t, s, m, d)
	}
}

// reported hands a report to both: mostly one that can be.
func reported(t *testing.T, s *Send, m *model, d *dice) {
	t.Helper()
	r := on(m.a, d.below(4)-d.below(30)/29) + d.high()
	mr := on(r, d.below(15)-d.below(3)) + d.high()
	l := []seq.Num(nil)
	for x := d.below(3); x <= way(r, m.s)+d.below(20)/19 && x < 30; x += 1 - d.below(30)/29 + d.below(3) {
		l = append(l, on(r, x)+d.high())
	}
	if d.below(20) > 0 {
		l = l[:len(l)/2*2]
	}
	if d.below(3) == 0 {
		got, code := s.Ustat(r, mr, l)
		if want, code2 := m.ustat(r, mr, l); got != want || code != code2 {
			t.Fatalf("P11.3: Ustat(%d, %d, %v): %d, code %d, not %d, code %d", r, mr, l, got, code, want, code2)
		}
		return
	}
	ps := on(m.ps, -d.below(3)*d.below(2)+d.below(30)/29) + d.high()
	got, code := s.Stat(r, mr, ps, l)
	if want, code2 := m.stat(r, mr, ps, l); got != want || code != code2 {
		t.Fatalf("P11.3: Stat(%d, %d, %d, %v): %d, code %d, not %d, code %d", r, mr, ps, l, got, code, want, code2)
	}
}

// P11.1, P11.2, P11.3: any calls, one behind the other, held against the model.
func TestAnyCalls(t *testing.T) {
	for _, start := range starts() {
		for seed := range 30 {
			d := dice(seed)
			s, m := both(start+d.high(), 1+d.below(9), 1+d.below(9))
			for range 800 {
				if d.below(40) == 0 {
					s = s.Clone()
				}
				step(t, s, m, &d)
				same(t, s, m)
				bounds(t, s)
			}
		}
	}
}

// filled answers a sender from which so many messages went out, each behind the poll start, with credit for more.
func filled(t *testing.T, start seq.Num, n, credit int) (*Send, *model) {
	t.Helper()
	s, m := both(start, 256, 256)
	s.Open(on(start, credit))
	m.open(on(start, credit))
	for i := range n {
		x := "m" + strconv.Itoa(i)
		s.Put(x)
		m.put(x)
		s.Next()
		m.next()
	}
	same(t, s, m)
	return s, m
}

// P11.1: the chapter's example.
func TestExample(t *testing.T) {
	s := New(0, 256, 256)
	s.Open(2)
	for _, m := range []string{"a", "b", "c"} {
		if s.Put(m) != api.OK {
			t.Errorf("P11.1: Put %s", m)
		}
	}
	for i, m := range []string{"a", "b"} {
		if n, x, fresh, ok := s.Next(); n != seq.Num(i) || x != m || !fresh || !ok {
			t.Errorf("P11.1: %d %q %t %t", n, x, fresh, ok)
		}
	}
	if n, x, fresh, ok := s.Next(); n != 0 || x != "" || fresh || ok {
		t.Errorf("P11.1: beyond the credit: %d %q %t %t", n, x, fresh, ok)
	}
	if !s.Lacks() || s.Idle() {
		t.Error("P11.1: it lacks credit")
	}
	s.Open(3)
	if n, x, fresh, ok := s.Next(); n != 2 || x != "c" || !fresh || !ok || s.Lacks() {
		t.Errorf("P11.1: %d %q %t %t", n, x, fresh, ok)
	}
}

// P11.1: a new one has nothing but its start; queue and polls are brought among 1 to 256.
func TestNew(t *testing.T) {
	for _, start := range []seq.Num{0, 7, modulus - 1, modulus, modulus + 9, math.MaxUint32} {
		for n, want := range map[int]int{math.MinInt: 1, -1: 1, 0: 1, 1: 1, 2: 2, 255: 255, 256: 256, 257: 256, math.MaxInt: 256} {
			s, m := New(start, n, n), &model{queue: want, polls: want}
			low := start % modulus
			m.s, m.a, m.ms, m.ps, m.pa = low, low, low, low, low
			same(t, s, m)
			for range want {
				if s.Put("") != api.OK {
					t.Fatalf("P11.1: %d don't wait", want)
				}
			}
			if s.Put("") != api.ErrFull || s.Vars().Queued != want {
				t.Fatalf("P11.1: more than %d wait", want)
			}
			s.Open(on(start, 300))
			for range want {
				if s.Due() {
					t.Fatalf("P11.1: Due ahead of %d units", want)
				}
				s.Next()
			}
			if !s.Due() || s.Vars().Polls != want {
				t.Fatalf("P11.1: not Due behind %d units", want)
			}
		}
	}
}

// P11.1: a poll is due till it is asked for; units that go again count.
func TestDue(t *testing.T) {
	s, m := both(modulus-1, 9, 2)
	s.Open(5)
	m.open(5)
	for _, x := range []string{"a", "b", "c"} {
		s.Put(x)
		m.put(x)
		s.Next()
		m.next()
	}
	same(t, s, m)
	if ps, n := s.Poll(); ps != 0 || n != 2 || s.Due() {
		t.Errorf("P11.1: Poll: %d, %d", ps, n)
	}
	if n, code := s.Ustat(modulus-1, 5, []seq.Num{modulus - 1, 1}); n != 2 || code != api.OK {
		t.Errorf("P11.1: Ustat: %d, code %d", n, code)
	}
	s.Next()
	if s.Due() {
		t.Error("P11.1: Due behind one")
	}
	s.Next()
	if !s.Due() || s.Vars().Polls != 2 {
		t.Error("P11.1: not Due behind two that went again")
	}
	s.Next()
	if s.Vars().Polls != 2 {
		t.Error("P11.1: nothing went out, and counts")
	}
}

// P11.1, P11.2: MS goes as far as 2^23 from A, and never back.
func TestOpen(t *testing.T) {
	for _, start := range starts() {
		for _, c := range []struct{ first, then, want int }{
			{0, 0, 0}, {0, 1, 1}, {5, 4, 5}, {5, 5, 5}, {5, 6, 6}, {5, 0, 5}, {5, -1, 5}, {0, -1, 0}, {0, modulus - 5, 0},
			{0, half - 1, half - 1}, {0, half, half}, {0, half + 1, 0}, {3, half + 1, 3}, {half, half - 1, half},
			{half - 1, half, half}, {half, half + 1, half}, {half, 0, half}, {half, modulus - 1, half},
		} {
			s := New(start, 9, 9)
			s.Open(on(start, c.first))
			s.Open(on(start, c.then) + 255*modulus)
			if v := s.Vars(); v.MS != on(start, c.want) || v.A != start || v.S != start {
				t.Errorf("P11.2: from %d on, Open %d, Open %d: %+v", start, c.first, c.then, v)
			}
		}
	}
}

// P11.2: a report's MR is looked at from the new A on.
func TestOpenByReport(t *testing.T) {
	for _, start := range starts() {
		for _, c := range []struct{ r, mr, want int }{
			{0, 9, 10}, {0, 10, 10}, {0, 11, 11}, {3, 2, 10}, {3, 9, 10}, {3, 12, 12}, {3, half, half}, {3, half + 3, half + 3},
			{3, half + 4, 10}, {5, half + 5, half + 5}, {5, half + 6, 10}, {5, 0, 10}, {0, half + 1, 10}, {5, 4, 10},
		} {
			s, m := filled(t, start, 5, 10)
			r, mr := on(start, c.r), on(start, c.mr)+modulus
			s.Ustat(r, mr, nil)
			m.ustat(r, mr, nil)
			same(t, s, m)
			if v := s.Vars(); v.MS != on(start, c.want) || v.A != r || v.Kept != 5-c.r {
				t.Errorf("P11.2: Ustat(%d, %d): %+v", c.r, c.mr, v)
			}
			s, m = filled(t, start, 5, 10)
			s.Stat(r, mr, start, nil)
			m.stat(r, mr, start, nil)
			same(t, s, m)
			if v := s.Vars(); v.MS != on(start, c.want) {
				t.Errorf("P11.2: Stat(%d, %d): %+v", c.r, c.mr, v)
			}
		}
	}
}

// P11.2: whatever MS is, no new number goes out at it or beyond.
func TestCredit(t *testing.T) {
	for _, start := range starts() {
		for credit := range 6 {
			s := New(start, 9, 9)
			s.Open(on(start, credit))
			for range 6 {
				s.Put("x")
			}
			for i := range credit {
				if n, _, fresh, ok := s.Next(); n != on(start, i) || !fresh || !ok || s.Lacks() != (i == credit-1) {
					t.Fatalf("P11.2: %d of %d: %d, %t, lacks %t", i, credit, n, ok, s.Lacks())
				}
			}
			for range 3 {
				if n, m, fresh, ok := s.Next(); n != 0 || m != "" || fresh || ok || !s.Lacks() {
					t.Fatalf("P11.2: beyond %d: %d %q", credit, n, m)
				}
			}
			// What is to go again needs no credit.
			if got, _ := s.Ustat(start, start, []seq.Num{start, on(start, credit)}); credit > 0 && got != credit {
				t.Fatalf("P11.2: %d of %d", got, credit)
			}
			for i := range credit {
				if n, _, fresh, ok := s.Next(); n != on(start, i) || fresh || !ok {
					t.Fatalf("P11.3: %d of %d: %d, %t", i, credit, n, ok)
				}
			}
			bounds(t, s)
		}
	}
}

// P11.3: what goes again goes ahead of what is new, rising from A on, over the seam too.
func TestAgainFirst(t *testing.T) {
	for _, start := range starts() {
		s, _ := filled(t, start, 6, 9)
		s.Put("new")
		if n, code := s.Ustat(start, start, []seq.Num{on(start, 4), on(start, 6)}); n != 2 || code != api.OK {
			t.Fatalf("P11.3: %d, code %d", n, code)
		}
		if n, code := s.Ustat(on(start, 1), start, []seq.Num{on(start, 2), on(start, 3)}); n != 1 || code != api.OK {
			t.Fatalf("P11.3: %d, code %d", n, code)
		}
		if l := s.Vars().Again; !slices.Equal(l, []seq.Num{on(start, 2), on(start, 4), on(start, 5)}) {
			t.Fatalf("P11.3: to go again from %d on: %v", start, l)
		}
		for _, i := range []int{2, 4, 5} {
			if n, m, fresh, ok := s.Next(); n != on(start, i) || m != "m"+strconv.Itoa(i) || fresh || !ok {
				t.Fatalf("P11.3: %d: %d %q %t %t", i, n, m, fresh, ok)
			}
		}
		if n, m, fresh, ok := s.Next(); n != on(start, 6) || m != "new" || !fresh || !ok {
			t.Fatalf("P11.3: %d %q %t %t", n, m, fresh, ok)
		}
	}
}

// P11.3: a status makes go again what went out last ahead of its poll, and nothing else.
func TestAgainByPoll(t *testing.T) {
	for _, start := range starts() {
		s, _ := filled(t, start, 2, 9)
		first, next := s.Poll()
		if first != on(start, 1) || next != on(start, 2) {
			t.Fatalf("P11.1: Poll: %d, %d", first, next)
		}
		s.Put("m2")
		s.Next()
		second, _ := s.Poll()
		all := []seq.Num{start, on(start, 3)}
		for _, c := range []struct {
			ps    seq.Num
			count int
			again []seq.Num
		}{
			{start, 0, nil}, // asked ahead of all
			{first, 2, []seq.Num{start, on(start, 1)}}, // the third one went out behind it
			{first, 0, []seq.Num{start, on(start, 1)}}, // they are to already
			{second, 1, []seq.Num{start, on(start, 1), on(start, 2)}},
			{second, 0, []seq.Num{start, on(start, 1), on(start, 2)}},
		} {
			if n, code := s.Stat(start, start, c.ps+3*modulus, all); n != c.count || code != api.OK {
				t.Fatalf("P11.3: poll %d: %d, code %d", c.ps, n, code)
			}
			if v := s.Vars(); !slices.Equal(v.Again, c.again) || v.PA != c.ps {
				t.Fatalf("P11.3: poll %d: %+v", c.ps, v)
			}
		}
		for range 3 {
			s.Next()
		}
		// They went out again behind the second poll.
		if n, code := s.Stat(start, start, second, all); n != 0 || code != api.OK || len(s.Vars().Again) > 0 {
			t.Fatalf("P11.3: %d, code %d", n, code)
		}
		third, _ := s.Poll()
		if n, code := s.Stat(on(start, 1), start, third, all[:0]); n != 0 || code != api.OK {
			t.Fatalf("P11.3: %d, code %d", n, code)
		}
		if n, code := s.Stat(on(start, 1), start, third, []seq.Num{on(start, 2), on(start, 3)}); n != 1 || code != api.OK {
			t.Fatalf("P11.3: %d, code %d", n, code)
		}
	}
}

// P11.3: a gap that is told makes go again whatever it names, though no poll went out; PA stays.
func TestAgainByGap(t *testing.T) {
	s, _ := filled(t, modulus-1, 4, 9)
	l := []seq.Num{0, 2}
	for range 3 {
		if n, code := s.Ustat(modulus-1, 9, l); n != 2 || code != api.OK {
			t.Fatalf("P11.3: %d, code %d", n, code)
		}
		if n, code := s.Ustat(modulus-1, 9, l); n != 0 || code != api.OK {
			t.Fatalf("P11.3: twice: %d, code %d", n, code)
		}
		if v := s.Vars(); !slices.Equal(v.Again, []seq.Num{0, 1}) || v.PA != modulus-1 {
			t.Fatalf("P11.3: %+v", v)
		}
		s.Poll()
		s.Next()
		s.Next()
	}
	if n, code := s.Ustat(1, 9, []seq.Num{1, 2}); n != 1 || code != api.OK || s.Vars().PA != modulus-1 {
		t.Fatalf("P11.3: %d, code %d", n, code)
	}
}

// P11.3: what is acknowledged neither goes again nor stays in the buffer.
func TestAcknowledged(t *testing.T) {
	for _, start := range starts() {
		for r := range 6 {
			s, m := filled(t, start, 5, 9)
			s.Ustat(start, start, []seq.Num{on(start, 1), on(start, 4)})
			m.ustat(start, start, []seq.Num{on(start, 1), on(start, 4)})
			s.Put("w")
			m.put("w")
			got, code := s.Stat(on(start, r)+modulus, start, start, nil)
			if got != 0 || code != api.OK {
				t.Fatalf("P11.3: %d, code %d", got, code)
			}
			m.stat(on(start, r), start, start, nil)
			same(t, s, m)
			bounds(t, s)
			for {
				n, _, fresh, ok := s.Next()
				if !ok {
					break
				}
				if way(start, n) < r || fresh != (way(start, n) == 5) {
					t.Fatalf("P11.3: %d went out, behind %d", n, r)
				}
			}
			if _, code := s.Ustat(on(start, 6), start, nil); code != api.OK || !s.Idle() || len(s.Left()) > 0 {
				t.Fatalf("P11.1: not idle, code %d", code)
			}
		}
	}
}

// unchanged asks that a report is refused, and that both stay alike, now and behind other calls.
func unchanged(t *testing.T, s *Send, m *model, want api.Errno, report func(s *Send) (int, api.Errno)) {
	t.Helper()
	if n, code := report(s); n != 0 || code != want {
		t.Fatalf("P11.4: %d, code %d, not %d", n, code, want)
	}
	same(t, s, m)
	c, k, d := s.Clone(), m.clone(), dice(1)
	for range 60 {
		step(t, c, k, &d)
		same(t, c, k)
	}
}

// P11.4: with an error nothing is changed; the poll is looked at first.
func TestErrors(t *testing.T) {
	for _, start := range starts() {
		s, m := filled(t, start, 5, 9)
		at := func(i int) seq.Num { return on(start, i) }
		for range 3 {
			s.Poll()
			m.poll()
		}
		s.Stat(at(1), at(9), at(2), []seq.Num{at(2), at(3)})
		m.stat(at(1), at(9), at(2), []seq.Num{at(2), at(3)})
		same(t, s, m)
		for _, ps := range []int{1, 0, -1, 4, 5, half, half + 2, modulus - 1} {
			for _, r := range []int{2, 0, 9} {
				unchanged(t, s, m, api.ErrStat, func(s *Send) (int, api.Errno) {
					return s.Stat(at(r), at(20), at(ps), []seq.Num{at(3), at(4)})
				})
			}
		}
		for _, c := range []struct {
			r int
			l []int
		}{
			{0, nil}, {-1, nil}, {6, nil}, {half, nil}, {modulus - 1, []int{3, 4}}, {6, []int{6, 7}},
			{2, []int{3}}, {2, []int{3, 3}}, {2, []int{4, 3}}, {2, []int{3, 4, 4, 5}}, {2, []int{3, 6}}, {2, []int{1, 3}},
			{2, []int{2, 3, 4}}, {2, []int{4, 5, 2, 3}}, {5, []int{5, 6}}, {5, []int{4, 5}}, {2, []int{5, 6}}, {2, []int{half, half + 1}},
		} {
			var l []seq.Num
			for _, x := range c.l {
				l = append(l, at(x))
			}
			for _, ps := range []int{2, 3} {
				unchanged(t, s, m, api.ErrList, func(s *Send) (int, api.Errno) { return s.Stat(at(c.r), at(20), at(ps), l) })
			}
			unchanged(t, s, m, api.ErrGap, func(s *Send) (int, api.Errno) { return s.Ustat(at(c.r), at(20), l) })
		}
	}
}

// P11.4: a message for which there is no room leaves all as it was.
func TestFull(t *testing.T) {
	s, m := both(3, 2, 5)
	for _, x := range []string{"a", "b", "c", "d"} {
		if got, want := s.Put(x), m.put(x); got != want {
			t.Errorf("P11.4: Put %s: code %d", x, got)
		}
		same(t, s, m)
	}
	s.Open(4)
	m.open(4)
	s.Next()
	m.next()
	if s.Put("e") != api.OK || s.Put("f") != api.ErrFull || !slices.Equal(s.Left(), []string{"a", "b", "e"}) {
		t.Errorf("P11.4: %q", s.Left())
	}
}

// P11.1: a poll may be answered twice, and polls may be passed over; one ahead of the last answer may not.
func TestPolls(t *testing.T) {
	s := New(modulus-2, 9, 9)
	for i := range 4 {
		if ps, n := s.Poll(); ps != on(modulus-2, i+1) || n != modulus-2 {
			t.Errorf("P11.1: Poll: %d, %d", ps, n)
		}
	}
	for _, c := range []struct {
		ps   seq.Num
		code api.Errno
	}{{modulus - 2, 0}, {0, 0}, {0, 0}, {modulus - 1, api.ErrStat}, {3, api.ErrStat}, {2, 0}, {1, api.ErrStat}, {2 + modulus, 0}} {
		if n, code := s.Stat(modulus-2, 0, c.ps, nil); n != 0 || code != c.code {
			t.Errorf("P11.4: poll %d: code %d", c.ps, code)
		}
	}
}

// P11.1: of far more than 65536 numbers none is forgotten: in the buffer, to go again, and left.
func TestMany(t *testing.T) {
	const many = 70000
	for _, start := range []seq.Num{0, modulus - 1000} {
		s := New(start, 256, 256)
		s.Open(on(start, half))
		for i := range many {
			s.Put(strconv.Itoa(i))
			s.Next()
		}
		ps, _ := s.Poll()
		v := s.Vars()
		if v.Kept != many || len(s.Left()) != many || v.S != on(start, many) {
			t.Fatalf("P11.2: %+v", v)
		}
		if n, code := s.Stat(start, start, ps, []seq.Num{start, on(start, many)}); n != many || code != api.OK {
			t.Fatalf("P11.3: %d, code %d", n, code)
		}
		for i := range many {
			if n, m, fresh, ok := s.Next(); n != on(start, i) || m != strconv.Itoa(i) || fresh || !ok {
				t.Fatalf("P11.3: %d: %d %q %t %t", i, n, m, fresh, ok)
			}
		}
		for i, m := range s.Left() {
			if m != strconv.Itoa(i) {
				t.Fatalf("P11.1: Left: %q as number %d", m, i)
			}
		}
		if _, code := s.Ustat(on(start, many), start, nil); code != api.OK || !s.Idle() {
			t.Fatalf("P11.1: code %d", code)
		}
	}
}

// P11.1: a clone is just like it, and goes its own way.
func TestClone(t *testing.T) {
	for seed := range 40 {
		d := dice(seed)
		s, m := both(modulus-5, 6, 4)
		for range 3 * seed {
			step(t, s, m, &d)
		}
		c, k := s.Clone(), m.clone()
		same(t, c, k)
		for range 60 {
			step(t, c, k, &d)
			same(t, s, m)
			step(t, s, m, &d)
			same(t, c, k)
		}
	}
}

// P11.1: what is to go again of one doesn't go again of its clone, though there is spare room.
func TestCloneAgain(t *testing.T) {
	for n := 1; n < 9; n++ {
		s, m := filled(t, 0, 20, 20)
		l := []seq.Num{5, seq.Num(5 + n)}
		s.Ustat(0, 20, l)
		m.ustat(0, 20, l)
		c, k := s.Clone(), m.clone()
		for x := range seq.Num(3) {
			s.Ustat(0, 20, []seq.Num{x, x + 1})
			m.ustat(0, 20, []seq.Num{x, x + 1})
			c.Ustat(0, 20, []seq.Num{19 - x, 20 - x})
			k.ustat(0, 20, []seq.Num{19 - x, 20 - x})
			same(t, s, m)
			same(t, c, k)
		}
	}
}

// Rule 5: what is handed in isn't changed, its spare room neither; answers share no memory with anything.
func TestMemory(t *testing.T) {
	s, m := filled(t, 0, 6, 9)
	all := []seq.Num{modulus + 1, 3, 4, 5, 99, 98}
	l := all[:4]
	s.Ustat(0, 9, l)
	m.ustat(0, 9, l)
	s.Stat(0, 9, 0, l)
	m.stat(0, 9, 0, l)
	if !slices.Equal(all, []seq.Num{modulus + 1, 3, 4, 5, 99, 98}) {
		t.Errorf("rule 5: %v", all)
	}
	l[0] = 0
	s.Vars().Again[0] = 77
	s.Left()[0] = "z"
	_ = append(s.Vars().Again, 5)
	same(t, s, m)
	v := s.Vars()
	s.Next()
	s.Ustat(0, 9, []seq.Num{0, 2})
	if !slices.Equal(v.Again, []seq.Num{1, 2, 4}) {
		t.Errorf("rule 5: %v", v.Again)
	}
}

// P1: each call ends, at any values of its arguments' types, and leaves numbers of 24 bits.
func TestCallsEnd(t *testing.T) {
	edges := []seq.Num{0, 1, 3, half - 1, half, half + 1, modulus - 1, modulus, modulus + 1, 1 << 31, math.MaxUint32}
	for _, start := range edges {
		s := New(start, math.MaxInt, math.MinInt)
		for i, a := range edges {
			for j, b := range edges {
				s.Open(a)
				s.Put("")
				s.Next()
				s.Put("x")
				s.Ustat(a, b, []seq.Num{b, a})
				s.Next()
				s.Stat(b, a, edges[(i+j)%len(edges)], []seq.Num{a, b, a})
				s.Stat(s.Vars().A+modulus, a, s.Vars().PA+modulus, []seq.Num{a, b})
				s.Poll()
				bounds(t, s)
				v := s.Vars()
				for _, n := range append([]seq.Num{v.S, v.A, v.MS, v.PS, v.PA}, v.Again...) {
					if n >= modulus {
						t.Fatalf("P1: %+v", v)
					}
				}
			}
		}
	}
}
