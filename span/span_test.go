package span

import (
	"math"
	"slices"
	"testing"
)

const top = 1 << 40

// ends has whole numbers at which something may turn.
func ends() []int {
	return []int{
		math.MinInt, math.MinInt + 1, -top - 2, -top - 1, -top, -top + 1, -top + 2, -65536, -2, -1,
		0, 1, 2, 3, 5, 65535, 65536, 65537, top - 2, top - 1, top, top + 1, top + 2, math.MaxInt - 1, math.MaxInt,
	}
}

// near is x, brought among low to high.
func near(x, low, high int) int {
	if x < low {
		return low
	}
	if x > high {
		return high
	}
	return x
}

// one is the set of one span, as the chapter's words say it.
func one(x Span) Set {
	from, to := near(x.From, -top, top), near(x.To, -top, top+1)
	if to <= from {
		return nil
	}
	return Set{{from, to}}
}

// wide is how many numbers, from -1 on, the sets of the model may have.
const wide = 9

// bits is a set of numbers from -1 on, a bit for each.
type bits uint

// has asks whether x is one of them.
func (m bits) has(x int) bool {
	return x >= -1 && x < wide-1 && m>>(x+1)&1 == 1
}

// set is the model's set, run by run, shifted by base.
func (m bits) set(base int) Set {
	var s Set
	for x := -1; x < wide; x++ {
		if m.has(x) && !m.has(x-1) {
			s = append(s, Span{x + base, x + base})
		}
		if m.has(x) {
			s[len(s)-1].To++
		}
	}
	return s
}

// run is the numbers from a on, ahead of b.
func run(a, b int) bits {
	var m bits
	for x := max(a, -1); x < min(b, wide-1); x++ {
		m |= 1 << (x + 1)
	}
	return m
}

// count is how many there are.
func (m bits) count() int {
	n := 0
	for ; m != 0; m &= m - 1 {
		n++
	}
	return n
}

func all() bits { return 1<<wide - 1 }

// bases has what the model's sets are shifted by: the middle, and both edges.
func bases() []int {
	return []int{0, top - wide + 2, -top + 1}
}

func check(t *testing.T, what string, got, want Set) {
	t.Helper()
	if !slices.Equal(got, want) {
		t.Fatalf("%s: %v, not %v", what, got, want)
	}
}

// P3.1: Of is written in one way: spans in any order, over one another, side by side, or empty.
func TestOf(t *testing.T) {
	for _, c := range []struct {
		of   []Span
		want Set
	}{
		{nil, nil},
		{[]Span{}, nil},
		{[]Span{{5, 7}, {1, 3}, {6, 9}}, Set{{1, 3}, {5, 9}}},
		{[]Span{{1, 2}}, Set{{1, 2}}},
		{[]Span{{2, 2}}, nil},
		{[]Span{{3, 2}}, nil},
		{[]Span{{9, -9}, {4, 4}, {1, 2}, {0, 0}}, Set{{1, 2}}},
		{[]Span{{1, 3}, {3, 5}}, Set{{1, 5}}},
		{[]Span{{3, 5}, {1, 3}}, Set{{1, 5}}},
		{[]Span{{1, 3}, {4, 5}}, Set{{1, 3}, {4, 5}}},
		{[]Span{{1, 9}, {2, 3}, {5, 6}}, Set{{1, 9}}},
		{[]Span{{1, 9}, {1, 3}, {1, 12}}, Set{{1, 12}}},
		{[]Span{{1, 3}, {1, 3}}, Set{{1, 3}}},
		{[]Span{{-3, -1}, {-1, 1}, {2, 3}}, Set{{-3, 1}, {2, 3}}},
		{[]Span{{8, 9}, {6, 7}, {4, 5}, {2, 3}, {3, 4}}, Set{{2, 5}, {6, 7}, {8, 9}}},
		{[]Span{{2, 2}, {1, 2}, {3, 4}, {2, 2}}, Set{{1, 2}, {3, 4}}},
		{[]Span{{1, 2}, {3, 4}, {2, 0}}, Set{{1, 2}, {3, 4}}},
	} {
		check(t, "P3.1: Of", Of(c.of...), c.want)
	}
}

// P3.1: Of any runs of the model, in any order, is the model's set.
func TestOfRuns(t *testing.T) {
	for _, base := range bases() {
		for m := range all() + 1 {
			var l, bits []Span
			for _, x := range m.set(base) {
				l = append([]Span{x, {x.To, x.From}}, l...)
				for n := x.From; n < x.To; n++ {
					bits = append([]Span{{n, n + 1}}, bits...)
				}
			}
			check(t, "P3.1: Of runs", Of(l...), m.set(base))
			check(t, "P3.1: Of single numbers", Of(bits...), m.set(base))
		}
	}
}

// P3.1: ends beyond what may be count as the nearest that may be.
func TestEnds(t *testing.T) {
	for _, from := range ends() {
		for _, to := range ends() {
			x := Span{from, to}
			s := one(x)
			check(t, "P3.1: Of", Of(x), s)
			check(t, "P3.1: Add", Set(nil).Add(x), s)
			check(t, "P3.1: Gaps", Set(nil).Gaps(x), s)
			check(t, "P3.1: Drop", s.Drop(x), nil)
			check(t, "P3.1: Gaps of itself", s.Gaps(x), nil)
			n := 0
			if s != nil {
				n = s[0].To - s[0].From
			}
			if got := Of(x).Len(); got != n {
				t.Fatalf("P3.1: %v has %d, not %d", x, got, n)
			}
			for _, y := range ends() {
				if got := Of(x).Has(y); got != (s != nil && s[0].From <= y && y < s[0].To) {
					t.Fatalf("P3.1: %v has %d: %t", x, y, got)
				}
			}
		}
	}
	check(t, "P3.1: all there are", Of(Span{math.MinInt, 0}, Span{0, math.MaxInt}), Set{{-top, top + 1}})
	check(t, "P3.1: From beyond", Of(Span{top + 5, top + 9}), Set{{top, top + 1}})
	check(t, "P3.1: To beyond", Of(Span{-top - 9, -top - 5}), nil)
	if n := Of(Span{math.MinInt, math.MaxInt}).Len(); n != 2*top+1 {
		t.Errorf("P3.1: all there are: %d", n)
	}
}

// P3.1: Has, Len and List, held against the model.
func TestNumbers(t *testing.T) {
	for _, base := range bases() {
		for m := range all() + 1 {
			s := Of(m.set(base)...)
			var list []int
			for x := -3; x < wide+2; x++ {
				if s.Has(x+base) != m.has(x) {
					t.Fatalf("P3.1: %v has %d: %t", s, x+base, !m.has(x))
				}
				if m.has(x) {
					list = append(list, x+base)
				}
			}
			if s.Len() != m.count() || !slices.Equal(s.List(), list) {
				t.Fatalf("P3.1: %v: %d numbers: %v", s, s.Len(), s.List())
			}
		}
	}
}

// P3.1: a list has at most the first 65536 numbers.
func TestLongList(t *testing.T) {
	for _, c := range []struct {
		s    Set
		n    int
		last int
	}{
		{Of(Span{0, 65535}), 65535, 65534},
		{Of(Span{0, 65536}), 65536, 65535},
		{Of(Span{0, 65537}), 65536, 65535},
		{Of(Span{0, 65535}, Span{70000, 70001}), 65536, 70000},
		{Of(Span{0, 65535}, Span{70000, 70009}), 65536, 70000},
		{Of(Span{0, 65536}, Span{70000, 70009}), 65536, 65535},
		{Of(Span{-5, 65527}, Span{70000, 70009}, Span{80000, top}), 65536, 70003},
		{Of(Span{math.MinInt, math.MaxInt}), 65536, -top + 65535},
	} {
		l := c.s.List()
		if len(l) != c.n || l[len(l)-1] != c.last || l[0] != c.s[0].From || !slices.IsSorted(l) {
			t.Errorf("P3.1: the list of %v has %d, up to %d", c.s, len(l), l[len(l)-1])
		}
	}
}

// P3.1: Add, Drop and Gaps of any span, held against the model.
func TestAddDropGaps(t *testing.T) {
	for _, base := range bases() {
		for m := range all() + 1 {
			s := m.set(base)
			// No From lies beyond the greatest one here: it would count as that (TestEnds).
			for a := -1; a < wide-1; a++ {
				for b := a - 2; b < wide; b++ {
					x, r := Span{a + base, b + base}, run(a, b)
					check(t, "P3.1: Add", s.Add(x), (m | r).set(base))
					check(t, "P3.1: Drop", s.Drop(x), (m &^ r).set(base))
					check(t, "P3.1: Gaps", s.Gaps(x), (r &^ m).set(base))
				}
			}
		}
	}
}

// P3.1: Both and Same of any two sets, held against the model.
func TestBothSame(t *testing.T) {
	for m := range all() + 1 {
		for k := range all() + 1 {
			s, r := m.set(0), k.set(0)
			check(t, "P3.1: Both", s.Both(r), (m & k).set(0))
			if Same(s, r) != (m == k) {
				t.Fatalf("P3.1: %v and %v are the same: %t", s, r, m != k)
			}
		}
	}
	if !Same(nil, Set{}) || !Same(Set{}, nil) || !Same(nil, nil) || Same(nil, Of(Span{0, 1})) {
		t.Error("P3.1: an empty list isn't the same as none")
	}
}

// P3.1: a set of none has nothing.
func TestNone(t *testing.T) {
	for _, s := range []Set{nil, {}, Of(), Of(Span{4, 4}), Of(Span{1, 2}).Drop(Span{0, 9})} {
		if s.Has(0) || s.Len() != 0 || len(s.List()) != 0 || len(s.Drop(Span{0, 9})) != 0 || len(s.Both(Of(Span{0, 9}))) != 0 {
			t.Errorf("P3.1: %v has something", s)
		}
		check(t, "P3.1: Gaps of none", s.Gaps(Span{0, 9}), Set{{0, 9}})
		check(t, "P3.1: Add to none", s.Add(Span{0, 9}), Set{{0, 9}})
	}
}

// P3.2: what is dropped of a span are its gaps in that.
func TestDropIsGaps(t *testing.T) {
	for _, from := range ends() {
		for _, to := range ends() {
			x := Span{from, to}
			for _, y := range ends() {
				for _, z := range ends() {
					other := Span{y, z}
					if !Same(Of(x).Drop(other), Of(other).Gaps(x)) {
						t.Fatalf("P3.2: %v without %v: %v, but gaps %v", x, other, Of(x).Drop(other), Of(other).Gaps(x))
					}
				}
			}
			for _, s := range []Set{nil, Of(Span{-3, 3}), Of(Span{math.MinInt, 0}, Span{2, 65536}, Span{top, math.MaxInt})} {
				if !Same(s.Drop(x).Gaps(x), Of(x)) {
					t.Fatalf("P3.2: %v without %v: gaps %v", s, x, s.Drop(x).Gaps(x))
				}
				if got := s.Both(Of(x)); got.Len()+s.Drop(x).Len() != s.Len() || got.Len()+s.Gaps(x).Len() != Of(x).Len() {
					t.Fatalf("P3.2: %v and %v: both %v", s, x, got)
				}
			}
		}
	}
}

// P3.2: Add and Drop of spans that have nothing in common, in any order.
func TestAnyOrder(t *testing.T) {
	for m := range all() + 1 {
		s := m.set(0)
		for a := -1; a < wide; a++ {
			for b := a; b < wide; b++ {
				for c := b; c < wide; c++ {
					x, y := Span{a, b}, Span{c, c + 2}
					check(t, "P3.2: Add, Drop", s.Add(x).Drop(y), s.Drop(y).Add(x))
					check(t, "P3.2: Drop, Add", s.Drop(x).Add(y), s.Add(y).Drop(x))
					check(t, "P3.2: Add, Add", s.Add(x).Add(y), s.Add(y).Add(x))
					check(t, "P3.2: Drop, Drop", s.Drop(x).Drop(y), s.Drop(y).Drop(x))
				}
			}
		}
	}
}

// P3.1: many spans.
func TestMany(t *testing.T) {
	var l []Span
	for i := range 100000 {
		n := (i * 7919) % 100000
		l = append(l, Span{3 * n, 3*n + 2})
	}
	s := Of(l...)
	if len(s) != 100000 || s.Len() != 200000 || !s.Has(299997) || s.Has(299999) || len(s.List()) != 65536 {
		t.Fatalf("P3.1: %d spans, %d numbers", len(s), s.Len())
	}
	gaps := s.Gaps(Span{0, 300000})
	if len(gaps) != 100000 || gaps.Len() != 100000 || len(s.Both(gaps)) != 0 || !Same(Of(append(gaps, s...)...), Of(Span{0, 300000})) {
		t.Errorf("P3.1: %d gaps", len(gaps))
	}
}

// Rule 5: nothing that is handed in is changed, its spare room neither, and what is answered is new.
func TestMemory(t *testing.T) {
	l := []Span{{9, 12}, {1, 3}, {2, 4}, {100, 101}, {102, 103}}
	Of(l[:3]...)
	check(t, "rule 5: Of", Set(l), Set{{9, 12}, {1, 3}, {2, 4}, {100, 101}, {102, 103}})
	s := Set{{1, 3}, {5, 7}, {9, 12}, {100, 101}, {102, 103}}
	want := slices.Clone(s)
	for _, x := range []Span{{3, 5}, {4, 4}, {12, 13}, {20, 30}, {0, 50}, {6, 10}} {
		for _, got := range []Set{s[:3].Add(x), s[:3].Drop(x), s[:3].Gaps(x), s[:3].Both(Of(x)), s[:3].Both(s[:3]), Of(s[:3]...)} {
			for i := range got {
				got[i] = Span{-7, -7}
			}
			if got = got[:cap(got)]; len(got) > 0 {
				got[len(got)-1] = Span{-7, -7}
			}
			check(t, "rule 5: a set", s, want)
		}
	}
	list := s.List()
	list[0] = 77
	if s.List()[0] != 1 {
		t.Error("rule 5: a list")
	}
}

// P1: each call ends, and none panics, of sets that are none as well.
func TestCallsEnd(t *testing.T) {
	odd := []Set{
		nil, {{5, 1}}, {{3, 3}, {3, 3}}, {{0, math.MaxInt}, {math.MinInt, 3}}, {{math.MinInt, math.MaxInt}, {math.MinInt, math.MaxInt}},
		{{9, 12}, {1, 4}, {2, 3}}, {{math.MaxInt, math.MinInt}, {1, 2}},
	}
	for _, s := range odd {
		s.Len()
		if len(s.List()) > 65536 {
			t.Errorf("P1: a list of %d", len(s.List()))
		}
		for _, r := range odd {
			s.Both(r)
			if Same(s, r) != Same(r, s) {
				t.Errorf("P1: %v and %v", s, r)
			}
		}
		for _, x := range ends() {
			s.Has(x)
			for _, y := range ends() {
				s.Add(Span{x, y})
				s.Drop(Span{x, y})
				s.Gaps(Span{x, y})
			}
		}
	}
}
