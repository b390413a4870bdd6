package ring

import (
	"math"
	"slices"
	"testing"

	"polliwog/api"
)

// model is a row as the chapter's words say it: nothing but a list.
type model struct {
	most int
	l    []int
}

// same holds a row against the model, by each call that changes nothing.
func same(t *testing.T, r *Ring[int], m *model) {
	t.Helper()
	if r.Len() != len(m.l) || r.Most() != m.most || r.Room() != m.most-len(m.l) {
		t.Fatalf("P4.1: %d, room for %d, of %d; not %d of %d", r.Len(), r.Room(), r.Most(), len(m.l), m.most)
	}
	if got := r.All(); !slices.Equal(got, m.l) {
		t.Fatalf("P4.1: All: %v, not %v", got, m.l)
	}
	for i := -2; i < len(m.l)+3; i++ {
		want, ok := 0, i >= 0 && i < len(m.l)
		if ok {
			want = m.l[i]
		}
		if v, is := r.At(i); v != want || is != ok {
			t.Fatalf("P4.1: At(%d) of %v: %d, %t", i, m.l, v, is)
		}
	}
	want, code := 0, api.ErrNone
	if len(m.l) > 0 {
		want, code = m.l[0], api.OK
	}
	if v, got := r.First(); v != want || got != code {
		t.Fatalf("P4.1: First of %v: %d, code %d", m.l, v, got)
	}
}

// put puts v into both.
func put(t *testing.T, r *Ring[int], m *model, v int) {
	t.Helper()
	want := api.OK
	if len(m.l) == m.most {
		want = api.ErrFull
	} else {
		m.l = append(slices.Clone(m.l), v)
	}
	if got := r.Put(v); got != want {
		t.Fatalf("P4.1: Put, %d of %d: code %d", len(m.l), m.most, got)
	}
}

// take takes the first one of both.
func take(t *testing.T, r *Ring[int], m *model) {
	t.Helper()
	want, code := 0, api.ErrNone
	if len(m.l) > 0 {
		want, code = m.l[0], api.OK
		m.l = m.l[1:]
	}
	if v, got := r.Take(); v != want || got != code {
		t.Fatalf("P4.2: Take: %d, code %d, not %d", v, got, want)
	}
}

// P4.1: the chapter's example.
func TestExample(t *testing.T) {
	r := New[string](2)
	if r.Put("a") != api.OK || r.Put("b") != api.OK || r.Put("c") != api.ErrFull {
		t.Error("P4.1: Put")
	}
	if v, code := r.Take(); v != "a" || code != api.OK {
		t.Errorf("P4.2: %q, code %d", v, code)
	}
	if v, code := r.First(); v != "b" || code != api.OK || r.Len() != 1 || r.Room() != 1 {
		t.Errorf("P4.1: %q, code %d", v, code)
	}
}

// P4.1: a row's most is brought among 0 to 4096.
func TestMost(t *testing.T) {
	for most, want := range map[int]int{
		math.MinInt: 0, -1: 0, 0: 0, 1: 1, 2: 2, 7: 7, 8: 8, 9: 9, 4095: 4095, 4096: 4096, 4097: 4096, math.MaxInt: 4096,
	} {
		r, m := New[int](most), &model{most: want}
		same(t, r, m)
		for i := range want {
			if r.Put(i) != api.OK {
				t.Fatalf("P4.1: Put %d of %d", i, want)
			}
			m.l = append(m.l, i)
		}
		put(t, r, m, -1)
		same(t, r, m)
	}
}

// P4.2: any calls, one behind the other, held against the model, for rows of each small length.
func TestAnyCalls(t *testing.T) {
	for most := range 40 {
		r, m := New[int](most), &model{most: most}
		seed := uint32(most)
		for i := range 3000 {
			seed = seed*1664525 + 1013904223
			// Now it grows rather than shrinks, now the other way round.
			puts := seed>>24 < 100+100*uint32(i/200%2)
			switch {
			case seed>>16&255 < 3:
				if got := r.Clear(); !slices.Equal(got, m.l) {
					t.Fatalf("P4.1: Clear: %v, not %v", got, m.l)
				}
				m.l = nil
			case seed>>16&255 < 12:
				r = r.Clone()
			case puts:
				put(t, r, m, i)
			default:
				take(t, r, m)
			}
			same(t, r, m)
		}
	}
}

// P4.2: each way of so many puts and takes by turns, through several rounds of the places.
func TestRounds(t *testing.T) {
	for most := 1; most < 20; most++ {
		for stay := range most {
			r, m := New[int](most), &model{most: most}
			for i := range stay {
				put(t, r, m, -i)
			}
			for i := range 50 {
				put(t, r, m, i)
				same(t, r, m)
				take(t, r, m)
				same(t, r, m)
			}
		}
	}
}

// P4.2: a row grows, wherever its first one stands.
func TestGrows(t *testing.T) {
	for taken := range 100 {
		r, m := New[int](300), &model{most: 300}
		for i := range taken {
			put(t, r, m, i)
			if i%3 > 0 {
				take(t, r, m)
			}
		}
		for i := range 310 {
			put(t, r, m, 1000+i)
		}
		same(t, r, m)
		for range 310 {
			take(t, r, m)
		}
		same(t, r, m)
	}
}

// P4.1: an error changes nothing.
func TestErrorsChangeNothing(t *testing.T) {
	r, m := New[int](3), &model{most: 3}
	for range 3 {
		take(t, r, m)
		same(t, r, m)
	}
	for i := range 6 {
		put(t, r, m, i)
		same(t, r, m)
	}
	for range 5 {
		take(t, r, m)
		same(t, r, m)
	}
	put(t, r, m, 9)
	same(t, r, m)
}

// P4.1: of any i At answers, and nothing but what is there.
func TestAtFar(t *testing.T) {
	r := New[int](4)
	for i := range 6 {
		r.Put(i + 1)
		if i < 3 {
			r.Take()
		}
	}
	for _, i := range []int{math.MinInt, math.MinInt + 1, -4, -1, 3, 4, 8, math.MaxInt - 1, math.MaxInt} {
		if v, ok := r.At(i); v != 0 || ok {
			t.Errorf("P4.1: At(%d): %d, %t", i, v, ok)
		}
	}
}

// P4.1: Clear leaves a row of none that may have as many as ahead.
func TestClear(t *testing.T) {
	r, m := New[int](5), &model{most: 5}
	if len(r.Clear()) != 0 {
		t.Error("P4.1: an empty row has something")
	}
	for i := range 8 {
		put(t, r, m, i)
	}
	take(t, r, m)
	if got := r.Clear(); !slices.Equal(got, []int{1, 2, 3, 4}) {
		t.Errorf("P4.1: Clear: %v", got)
	}
	m.l = nil
	same(t, r, m)
	if len(r.Clear()) != 0 {
		t.Error("P4.1: what is cleared is there again")
	}
	for i := range 8 {
		put(t, r, m, 10+i)
	}
	same(t, r, m)
}

// P4.1, P4.2: a clone is just like it, and goes its own way.
func TestClone(t *testing.T) {
	for n := range 12 {
		r, m := New[int](10), &model{most: 10}
		for i := range n {
			put(t, r, m, i)
			if i%4 == 3 {
				take(t, r, m)
			}
		}
		c, k := r.Clone(), &model{most: 10, l: slices.Clone(m.l)}
		same(t, c, k)
		for i := range 3 {
			put(t, c, k, 100+i)
			same(t, r, m)
			take(t, r, m)
			same(t, c, k)
			put(t, r, m, 200+i)
			same(t, c, k)
			take(t, c, k)
			same(t, r, m)
		}
		c.Clear()
		same(t, r, m)
	}
}

// Rule 5: what All and Clear answer is new, and shares nothing with the row.
func TestMemory(t *testing.T) {
	r, m := New[int](8), &model{most: 8}
	for i := range 8 {
		put(t, r, m, i+1)
	}
	l, k := r.All(), r.All()
	l[0], l[7] = -1, -1
	same(t, r, m)
	if k[0] != 1 || k[7] != 8 {
		t.Errorf("rule 5: All: %v", k)
	}
	k = r.Clear()
	for i := range 8 {
		r.Put(-i)
	}
	if !slices.Equal(k, m.l) {
		t.Errorf("rule 5: Clear: %v", k)
	}
	l = r.All()
	k[0] = 55
	if !slices.Equal(r.All(), l) {
		t.Errorf("rule 5: a row behind Clear: %v", r.All())
	}
}

// P4.1: a row of any type, also of one whose zero value isn't nought.
func TestAnyType(t *testing.T) {
	type pair struct {
		name string
		l    []int
	}
	r := New[pair](3)
	if v, code := r.Take(); v.name != "" || v.l != nil || code != api.ErrNone {
		t.Errorf("P4.1: %v, code %d", v, code)
	}
	r.Put(pair{"a", []int{1}})
	r.Put(pair{"", nil})
	if v, ok := r.At(1); v.name != "" || v.l != nil || !ok {
		t.Errorf("P4.1: %v, %t", v, ok)
	}
	if v, code := r.Take(); v.name != "a" || v.l[0] != 1 || code != api.OK {
		t.Errorf("P4.1: %v, code %d", v, code)
	}
	e := New[error](1)
	if e.Put(nil) != api.OK || e.Put(nil) != api.ErrFull || e.Len() != 1 {
		t.Error("P4.1: a row of none that count")
	}
	if v, code := e.Take(); v != nil || code != api.OK {
		t.Errorf("P4.1: %v, code %d", v, code)
	}
	if s := New[struct{}](2); s.Put(struct{}{}) != api.OK || len(s.All()) != 1 {
		t.Error("P4.1: a row of what has no size")
	}
}

// P4.1: what was taken, or cleared, isn't kept.
func TestTakenIsNotKept(t *testing.T) {
	r := New[*int](9)
	for range 30 {
		r.Put(new(int))
		r.Put(new(int))
		r.Take()
		kept := 0
		for _, v := range r.places {
			if v != nil {
				kept++
			}
		}
		if kept != r.Len() {
			t.Fatalf("P4.1: %d are kept, of %d", kept, r.Len())
		}
	}
	r.Clear()
	if len(r.places) != 0 {
		t.Errorf("P4.1: places that are kept: %d", len(r.places))
	}
}
