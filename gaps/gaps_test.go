package gaps

import (
	"math"
	"slices"
	"testing"

	"polliwog/pdu"
	"polliwog/seq"
	"polliwog/span"
)

const (
	modulus = 1 << 24
	half    = 1 << 23
)

// bases has numbers at which something may turn, those of more than 24 bits among them.
func bases() []seq.Num {
	return []seq.Num{
		0, 1, 5, half - 3, half - 1, half, half + 1, modulus - 9, modulus - 2, modulus - 1,
		modulus, modulus + 7, 1 << 31, math.MaxUint32 - 4, math.MaxUint32,
	}
}

// on is the number so many further on than base.
func on(base seq.Num, n int) seq.Num {
	return seq.Num((int(base)%modulus + n) % modulus)
}

// wide is how many numbers, from 0 on, the sets of the model may have.
const wide = 9

// bits is a set of few numbers, a bit for each.
type bits uint

// has asks whether x is one of them.
func (m bits) has(x int) bool {
	return x >= 0 && m>>x&1 == 1
}

// set is the model's set, number by number, with each moved on.
func (m bits) set(moved int) span.Set {
	var l []span.Span
	for x := range wide {
		if m.has(x) {
			l = append(l, span.Span{From: x + moved, To: x + moved + 1})
		}
	}
	return span.Of(l...)
}

// list is the model's List: each number at which there is another answer than for the one ahead.
func (m bits) list(base seq.Num, moved int) []seq.Num {
	var l []seq.Num
	for x := range wide + 1 {
		if m.has(x) != m.has(x-1) {
			l = append(l, on(base, x+moved))
		}
	}
	return l
}

// P9.1: the chapter's example, and the one back.
func TestExample(t *testing.T) {
	s := span.Of(span.Span{From: 0, To: 2}, span.Span{From: 5, To: 6})
	want := []seq.Num{16777215, 1, 4, 5}
	if l := List(16777215, s); !slices.Equal(l, want) {
		t.Errorf("P9.1: List: %v", l)
	}
	if got, ok := Set(16777215, 5, want); !ok || !span.Same(got, s) {
		t.Errorf("P9.1: Set: %v, %t", got, ok)
	}
	if l := Named(pdu.PDU{Kind: pdu.STAT, List: want}); !slices.Equal(l, []seq.Num{16777215, 0, 4}) {
		t.Errorf("P9.1: Named: %v", l)
	}
	if n := Count(want); n != 3 {
		t.Errorf("P9.1: Count: %d", n)
	}
}

// P9.1, P9.2: List of all sets of few numbers, near each base, and far from it, held against the model; and back.
func TestThereAndBack(t *testing.T) {
	for _, base := range bases() {
		for _, moved := range []int{0, 1, 65530, half - wide - 1, half - wide} {
			for m := bits(0); m < 1<<wide; m++ {
				s, want := m.set(moved), m.list(base, moved)
				l := List(base, s)
				if !slices.Equal(l, want) {
					t.Fatalf("P9.1: List(%d, %v): %v, not %v", base, s, l, want)
				}
				for _, top := range []seq.Num{on(base, moved+wide), on(base, half), on(base, half) + modulus} {
					if got, ok := Set(base, top, l); !ok || !span.Same(got, s) {
						t.Fatalf("P9.2: Set(%d, %d, %v): %v, %t", base, top, l, got, ok)
					}
				}
			}
		}
	}
}

// P9.2: there and back of wide spans, and of many.
func TestThereAndBackWide(t *testing.T) {
	var many []span.Span
	for i := range 5000 {
		many = append(many, span.Span{From: i * 1000, To: i*1000 + 1 + i%999})
	}
	for _, base := range bases() {
		for _, s := range []span.Set{
			nil,
			span.Of(),
			span.Of(span.Span{From: 0, To: half}),
			span.Of(span.Span{From: 0, To: half - 2}, span.Span{From: half - 1, To: half}),
			span.Of(span.Span{From: 17, To: 70000}, span.Span{From: 70001, To: half}),
			span.Of(many...),
		} {
			l := List(base, s)
			if len(l) != 2*len(s) {
				t.Fatalf("P9.1: List(%d, ..) of %d spans has %d", base, len(s), len(l))
			}
			if got, ok := Set(base, on(base, half), l); !ok || !span.Same(got, s) {
				t.Errorf("P9.2: Set of List of %d spans, from %d on: %t", len(s), base, ok)
			}
		}
	}
}

// P9.1: numbers below 0, and above 2^23, don't count; 2^23 does.
func TestListBounds(t *testing.T) {
	for _, c := range []struct {
		s    []span.Span
		want []int
	}{
		{[]span.Span{{From: -5, To: 0}}, nil},
		{[]span.Span{{From: -5, To: 1}}, []int{0, 1}},
		{[]span.Span{{From: -5, To: -2}, {From: 3, To: 4}}, []int{3, 4}},
		{[]span.Span{{From: -1, To: 2}, {From: 3, To: 4}}, []int{0, 2, 3, 4}},
		{[]span.Span{{From: half - 1, To: half}}, []int{half - 1, half}},
		{[]span.Span{{From: half, To: half + 1}}, []int{half, half + 1}},
		{[]span.Span{{From: half, To: half + 2}}, []int{half, half + 1}},
		{[]span.Span{{From: half + 1, To: half + 2}}, nil},
		{[]span.Span{{From: 0, To: half + 1}}, []int{0, half + 1}},
		{[]span.Span{{From: 2, To: 3}, {From: 9, To: modulus + 5}, {From: modulus + 7, To: modulus + 8}}, []int{2, 3, 9, half + 1}},
		{[]span.Span{{From: modulus, To: modulus + 2}}, nil},
		{[]span.Span{{From: 1 - modulus, To: 3 - modulus}}, nil},
		{[]span.Span{{From: -1 << 40, To: 1 << 40}}, []int{0, half + 1}},
		{[]span.Span{{From: 1 << 40, To: 1<<40 + 1}}, nil},
	} {
		for _, base := range bases() {
			var want []seq.Num
			for _, x := range c.want {
				want = append(want, on(base, x))
			}
			if l := List(base, span.Of(c.s...)); !slices.Equal(l, want) {
				t.Errorf("P9.1: List(%d, %v): %v, not %v", base, c.s, l, want)
			}
		}
	}
}

// P9.1: spans that are no set, as no call answers them, count as the set of their numbers.
func TestListOfNoSet(t *testing.T) {
	for _, s := range []span.Set{
		{{From: 9, To: 12}, {From: 1, To: 4}},
		{{From: 1, To: 3}, {From: 2, To: 4}, {From: 9, To: 12}, {From: 20, To: 20}},
		{{From: 1, To: 2}, {From: 2, To: 4}, {From: 9, To: 12}, {From: 30, To: 25}, {From: -9, To: -7}},
	} {
		if l := List(modulus-2, s); !slices.Equal(l, []seq.Num{modulus - 1, 2, 7, 10}) {
			t.Errorf("P9.1: List of %v: %v", s, l)
		}
	}
}

// rises is whether a list is some set's, up to top, as the chapter's words say it; ways has how far each number and top are.
func rises(top int, ways []int) bool {
	ok := len(ways)%2 == 0 && top <= half
	for i, way := range ways {
		ok = ok && way <= top && (i == 0 || way > ways[i-1])
	}
	return ok
}

// asSet holds Set against what the chapter's words say; a list that is some set's comes back as List of it.
func asSet(t *testing.T, base seq.Num, top int, ways []int) {
	t.Helper()
	var l, low []seq.Num
	for i, way := range ways {
		low = append(low, on(base, way))
		// Some of more than 24 bits, which don't count.
		l = append(l, on(base, way)+seq.Num(i%3)*modulus)
	}
	s, ok := Set(base, on(base, top), l)
	if want := rises(top, ways); ok != want {
		t.Fatalf("P9.1: Set(%d, %d, %v): %t", base, on(base, top), l, ok)
	}
	if !ok && len(s) != 0 {
		t.Fatalf("rule 3: Set(%d, %d, %v): %v", base, on(base, top), l, s)
	}
	if got := List(base, s); ok && !slices.Equal(got, low) {
		t.Fatalf("P9.2: List of Set(%d, %d, %v): %v", base, on(base, top), l, got)
	}
}

// P9.1, P9.2: Set of all lists of at most four numbers near the base, up to each top; List of Set is the list.
func TestSetNear(t *testing.T) {
	const near = 6
	for _, base := range bases() {
		for top := range near {
			asSet(t, base, top, nil)
			for i := range near {
				asSet(t, base, top, []int{i})
				for j := range near {
					asSet(t, base, top, []int{i, j})
					for k := range near {
						asSet(t, base, top, []int{i, j, k})
						for m := range near {
							asSet(t, base, top, []int{i, j, k, m})
						}
					}
				}
			}
		}
	}
}

// P9.1, P9.2: the same about 2^23, and all round about.
func TestSetFar(t *testing.T) {
	for _, base := range bases() {
		for _, top := range []int{0, 1, half - 1, half, half + 1, half + 2, modulus - 2, modulus - 1} {
			for _, ways := range [][]int{
				nil, {}, {0, 1}, {0, half - 1}, {0, half}, {0, half + 1}, {half - 1, half}, {half, half + 1}, {half, half},
				{half - 2, half - 1, half}, {1, half - 2, half - 1, half}, {0, modulus - 1}, {modulus - 1, 0},
				{modulus - 2, modulus - 1}, {modulus - 1, 0, 1, 2}, {0, 1, half, half + 1}, {half, 0}, {5, 3, 7, 9}, {3, 5, 5, 9},
				{3, 5, 4, 9}, {half - 1}, {modulus - 1},
			} {
				asSet(t, base, top, ways)
			}
		}
	}
}

// P9.1: the last of a long list is looked at, too.
func TestSetLong(t *testing.T) {
	var l []seq.Num
	for i := range 2000 {
		l = append(l, seq.Num(5+2*i))
	}
	last := len(l) - 1
	for _, c := range []struct {
		x  seq.Num
		ok bool
	}{{l[last], true}, {l[last-1] + 1, true}, {l[last-1], false}, {l[last-1] - 1, false}, {4, false}, {9000, true}, {9001, false}} {
		l[last] = c.x
		if s, ok := Set(5, 9000, l); ok != c.ok || len(s) > 0 != c.ok {
			t.Errorf("P9.1: Set, with %d as the last one: %d, %t", c.x, len(s), ok)
		}
	}
}

// P9.2: nothing hangs on where the base is.
func TestMovedAlike(t *testing.T) {
	for _, base := range bases() {
		s := span.Of(span.Span{From: 3, To: 9}, span.Span{From: 80000, To: half})
		var moved []seq.Num
		for _, x := range List(0, s) {
			moved = append(moved, on(base, int(x)))
		}
		if l := List(base, s); !slices.Equal(l, moved) {
			t.Errorf("P9.2: List(%d, %v): %v, not %v", base, s, l, moved)
		}
	}
}

// named is what a list names, as the chapter's words say it, step by step.
func named(l []seq.Num) []seq.Num {
	var all []seq.Num
	for i := 0; i+1 < len(l); i += 2 {
		first, second := l[i]%modulus, l[i+1]%modulus
		if (second+modulus-first)%modulus > half {
			continue
		}
		for x := first; x != second; x = (x + 1) % modulus {
			if !slices.Contains(all, x) {
				all = append(all, x)
			}
		}
	}
	return all
}

// names holds Named of both kinds against a list.
func names(t *testing.T, l, want []seq.Num) {
	t.Helper()
	for _, p := range []pdu.PDU{{Kind: pdu.STAT, List: l}, {Kind: pdu.USTAT, List: l}, {Kind: pdu.STAT, N: 9, MR: 1, PS: 3, SQ: -1, Data: "a", List: l}} {
		if got := Named(p); !slices.Equal(got, want) {
			t.Errorf("P9.1: Named of %s %v: %d numbers, not %d", p.Name(), l, len(got), len(want))
		}
	}
}

// P9.1: Named of a few pairs: over one another, twice, backward, round about, and half a pair.
func TestNamed(t *testing.T) {
	for _, c := range []struct{ l, want []seq.Num }{
		{nil, nil},
		{[]seq.Num{3}, nil},
		{[]seq.Num{3, 5}, []seq.Num{3, 4}},
		{[]seq.Num{3, 5, 9}, []seq.Num{3, 4}},
		{[]seq.Num{3, 3}, nil},
		{[]seq.Num{5, 3}, nil},
		{[]seq.Num{5, 3, 7, 8}, []seq.Num{7}},
		{[]seq.Num{7, 9, 3, 5}, []seq.Num{7, 8, 3, 4}},
		{[]seq.Num{3, 6, 4, 8}, []seq.Num{3, 4, 5, 6, 7}},
		{[]seq.Num{4, 8, 3, 6}, []seq.Num{4, 5, 6, 7, 3}},
		{[]seq.Num{3, 5, 3, 5}, []seq.Num{3, 4}},
		{[]seq.Num{3, 5, 1, 9, 0, 2}, []seq.Num{3, 4, 1, 2, 5, 6, 7, 8, 0}},
		{[]seq.Num{modulus - 2, 2}, []seq.Num{modulus - 2, modulus - 1, 0, 1}},
		{[]seq.Num{modulus - 1, 1, 0, 2}, []seq.Num{modulus - 1, 0, 1}},
		{[]seq.Num{modulus + 3, 5*modulus + 5, 4, 6}, []seq.Num{3, 4, 5}},
		{[]seq.Num{math.MaxUint32, modulus}, []seq.Num{modulus - 1}},
		{[]seq.Num{3, modulus + 3}, nil},
		{[]seq.Num{0, half + 1, 3, 4}, []seq.Num{3}},
		{[]seq.Num{1, 0, 0, modulus - 1, half, half - 1, 3, 4}, []seq.Num{3}},
	} {
		names(t, c.l, c.want)
	}
}

// P9.1: Named of all lists of four numbers near the seam, held against the chapter's words.
func TestNamedNear(t *testing.T) {
	at := func(i int) seq.Num { return seq.Num((i + modulus - 3) % modulus) }
	for i := range 6 {
		for j := range 6 {
			for k := range 6 {
				for m := range 6 {
					l := []seq.Num{at(i), at(j), at(k), at(m)}
					names(t, l, named(l))
				}
			}
		}
	}
}

// run answers n numbers from a on.
func run(a seq.Num, n int) []seq.Num {
	var l []seq.Num
	for i := range n {
		l = append(l, on(a, i))
	}
	return l
}

// P9.1: Named has at most 65536, each once, whichever pairs they come from; a pair of 2^23 is one, a wider one none.
func TestNamedMany(t *testing.T) {
	for _, a := range bases() {
		for _, c := range []struct {
			ways []int
			want []seq.Num
		}{
			{[]int{0, 65535}, run(a, 65535)},
			{[]int{0, 65536}, run(a, 65536)},
			{[]int{0, 65537}, run(a, 65536)},
			{[]int{0, half - 1}, run(a, 65536)},
			{[]int{0, half}, run(a, 65536)},
			{[]int{0, half + 1}, nil},
			{[]int{0, modulus - 1}, nil},
			{[]int{0, 65535, 0, 65535}, run(a, 65535)},
			{[]int{0, 65535, 0, 65535, 70000, 70009}, append(run(a, 65535), on(a, 70000))},
			{[]int{0, 65535, 65535, 65536, 70000, 70009}, run(a, 65536)},
			{[]int{0, 40000, 10000, 50000, 0, 60000, 100000, 200000}, append(run(a, 60000), run(on(a, 100000), 5536)...)},
			{[]int{0, 65536, 0, 3, 70000, 70001}, run(a, 65536)},
			{[]int{0, half + 1, 9, 11}, run(on(a, 9), 2)},
		} {
			var l []seq.Num
			for _, way := range c.ways {
				l = append(l, on(a, way))
			}
			names(t, l, c.want)
		}
	}
}

// P9.1: Named of another kind is none.
func TestNamedOfOthers(t *testing.T) {
	for kind := -2; kind < 20; kind++ {
		l := Named(pdu.PDU{Kind: kind, List: []seq.Num{3, 5}})
		if want := kind == pdu.STAT || kind == pdu.USTAT; len(l) == 2 != want || len(l) == 0 == want {
			t.Errorf("P9.1: Named of kind %d: %v", kind, l)
		}
	}
	for _, kind := range []int{math.MinInt, math.MaxInt, 1<<32 + pdu.STAT, 256 + pdu.USTAT} {
		if l := Named(pdu.PDU{Kind: kind, List: []seq.Num{3, 5}}); len(l) != 0 {
			t.Errorf("P9.1: Named of kind %d: %v", kind, l)
		}
	}
}

// P9.1: Count has each pair by itself, and no more than whole pairs.
func TestCount(t *testing.T) {
	for _, a := range bases() {
		for _, c := range []struct {
			ways []int
			want int
		}{
			{nil, 0},
			{[]int{5}, 0},
			{[]int{3, 5}, 2},
			{[]int{3, 5, 100}, 2},
			{[]int{3, 3}, 0},
			{[]int{5, 3}, 0},
			{[]int{5, 3, 7, 8}, 1},
			{[]int{3, 5, 3, 5}, 4},
			{[]int{3, 9, 4, 5, 0, 20}, 27},
			{[]int{modulus - 2, 2}, 4},
			{[]int{0, 65537, 0, 65537}, 131074},
			{[]int{0, half - 1}, half - 1},
			{[]int{0, half}, half},
			{[]int{0, half + 1}, 0},
			{[]int{0, half + 1, 0, half}, half},
			{[]int{0, modulus - 1, 4, 6}, 2},
			{[]int{half, 0, 0, half, half, 0}, 3 * half},
		} {
			var l []seq.Num
			for i, way := range c.ways {
				l = append(l, on(a, way)+seq.Num(i%2)*3*modulus)
			}
			if n := Count(l); n != c.want {
				t.Errorf("P9.1: Count(%v): %d, not %d", l, n, c.want)
			}
		}
	}
}

// P9.1: of a set's List, Count and Named have all its numbers.
func TestAllOfSet(t *testing.T) {
	for _, base := range bases() {
		for m := bits(0); m < 1<<wide; m += 5 {
			l := List(base, m.set(0))
			var want []seq.Num
			for x := range wide {
				if m.has(x) {
					want = append(want, on(base, x))
				}
			}
			names(t, l, want)
			if n := Count(l); n != len(want) {
				t.Errorf("P9.1: Count(%v): %d, not %d", l, n, len(want))
			}
		}
	}
}

// Rule 5: what is handed in isn't changed, its spare room neither; answers are new.
func TestMemory(t *testing.T) {
	all := []seq.Num{modulus + 3, 5, 7, 9, 99, 98}
	was := slices.Clone(all)
	l := all[:4]
	s, _ := Set(0, 50, l)
	Named(pdu.PDU{Kind: pdu.STAT, List: l})
	Count(l)
	if !slices.Equal(all, was) {
		t.Errorf("rule 5: %v", all)
	}
	spans := []span.Span{{From: -4, To: 2}, {From: 5, To: 6}, {From: 70, To: 71}}
	List(9, span.Set(spans[:2]))
	if !slices.Equal(spans, []span.Span{{From: -4, To: 2}, {From: 5, To: 6}, {From: 70, To: 71}}) {
		t.Errorf("rule 5: %v", spans)
	}
	s[0] = span.Span{From: 1, To: 2}
	if again, _ := Set(0, 50, l); again[0] != (span.Span{From: 3, To: 5}) {
		t.Errorf("rule 5: %v", again)
	}
	n := Named(pdu.PDU{Kind: pdu.STAT, List: l})
	n[0] = 1000
	if again := Named(pdu.PDU{Kind: pdu.STAT, List: l}); again[0] != 3 {
		t.Errorf("rule 5: %v", again)
	}
}

// P1: each call ends, of long lists and of sets that no call answers as well.
func TestCallsEnd(t *testing.T) {
	seed := uint32(1)
	var l []seq.Num
	for range 3001 {
		seed = seed*1664525 + 1013904223
		l = append(l, seq.Num(seed))
	}
	for n := range l {
		for _, m := range [][]seq.Num{l[:n], l[n:]} {
			if s, ok := Set(l[n], l[n].Add(half), m); ok && len(s) != len(m)/2 {
				t.Fatalf("P1: Set of %d numbers has %d", len(m), len(s))
			}
			if Count(m) < 0 {
				t.Fatalf("P1: Count of %d numbers: %d", len(m), Count(m))
			}
		}
	}
	for _, m := range [][]seq.Num{l, l[1:], l[:3], l[:1], nil} {
		if n := len(Named(pdu.PDU{Kind: pdu.STAT, List: m})); n > 65536 {
			t.Fatalf("P1: Named of %d numbers has %d", len(m), n)
		}
	}
	for _, s := range []span.Set{
		{{From: 5, To: 3}}, {{From: 9, To: 12}, {From: 1, To: 4}}, {{From: 1, To: 9}, {From: 2, To: 3}, {From: 3, To: 3}},
		{{From: math.MinInt, To: math.MaxInt}, {From: math.MaxInt, To: math.MinInt}},
	} {
		for _, base := range bases() {
			for _, x := range List(base, s) {
				if x >= modulus {
					t.Fatalf("P1: List(%d, %v): %d", base, s, x)
				}
			}
		}
	}
}
