package pipe

import (
	"fmt"
	"math"
	"slices"
	"strings"
	"testing"

	"polliwog/api"
	"polliwog/frame"
)

// model is a pipe as the chapter's words say it: nothing but a list, and three numbers.
type model struct {
	most   int
	l      []string
	counts [3]int
}

func (m *model) put(s string) api.Errno {
	if len(m.l) == m.most {
		return api.ErrFull
	}
	m.l = append(slices.Clone(m.l), s)
	m.counts[0]++
	return api.OK
}

func (m *model) take(c Choice) (string, bool, bool) {
	if len(m.l) == 0 {
		return "", false, false
	}
	was, comes := m.l[0], m.l[0]
	m.l = m.l[1:]
	switch c.Kind {
	case 1:
		m.counts[2]++
		return "", true, false
	case 2:
		comes = frame.Flip(was, c.At, c.Mask)
	}
	if comes == was {
		m.counts[1]++
	} else {
		m.counts[2]++
	}
	return comes, true, true
}

// same holds a pipe against the model, by each call that changes nothing.
func same(t *testing.T, p *Pipe, m *model) {
	t.Helper()
	a, b, c := p.Counts()
	if got := [3]int{a, b, c}; got != m.counts {
		t.Fatalf("P17.1: Counts: %v, not %v", got, m.counts)
	}
	if p.Len() != len(m.l) || p.Room() != m.most-len(m.l) || p.Most() != m.most {
		t.Fatalf("P17.1: %d, room for %d, of %d; not %d of %d", p.Len(), p.Room(), p.Most(), len(m.l), m.most)
	}
	if got := p.All(); !slices.Equal(got, m.l) {
		t.Fatalf("P17.1: All: %q, not %q", got, m.l)
	}
}

// put puts a frame into both.
func put(t *testing.T, p *Pipe, m *model, s string) {
	t.Helper()
	want := m.put(s)
	if got := p.Put(s); got != want {
		t.Fatalf("P17.1: Put, %d of %d: code %d, not %d", len(m.l), m.most, got, want)
	}
	same(t, p, m)
}

// take takes the first frame of both.
func take(t *testing.T, p *Pipe, m *model, c Choice) {
	t.Helper()
	want, is, comes := m.take(c)
	s, gotIs, gotComes := p.Take(c)
	if s != want || gotIs != is || gotComes != comes {
		t.Fatalf("P17.2: Take %+v: %q, %t, %t, not %q, %t, %t", c, s, gotIs, gotComes, want, is, comes)
	}
	same(t, p, m)
}

// P17.1: the kinds' numbers, and the chapter's example.
func TestExample(t *testing.T) {
	if Carry != 0 || Lose != 1 || Spoil != 2 {
		t.Errorf("P17.1: %d, %d, %d", Carry, Lose, Spoil)
	}
	p := New(2)
	p.Put("a")
	p.Put("b")
	if s, is, comes := p.Take(Choice{Kind: Lose}); s != "" || !is || comes {
		t.Errorf("P17.1: %q, %t, %t", s, is, comes)
	}
	if s, is, comes := p.Take(Choice{Kind: Carry}); s != "b" || !is || !comes {
		t.Errorf("P17.2: %q, %t, %t", s, is, comes)
	}
	if s, is, comes := p.Take(Choice{Kind: Carry}); s != "" || is || comes {
		t.Errorf("P17.1: %q, %t, %t", s, is, comes)
	}
	if a, b, c := p.Counts(); a != 2 || b != 1 || c != 1 {
		t.Errorf("P17.1: Counts: %d, %d, %d", a, b, c)
	}
}

// P17.1: how many may be is brought among 1 to 256; what is refused isn't put.
func TestMost(t *testing.T) {
	for most, want := range map[int]int{
		math.MinInt: 1, -1: 1, 0: 1, 1: 1, 2: 2, 7: 7, 255: 255, 256: 256, 257: 256, 4096: 256, math.MaxInt: 256,
	} {
		p, m := New(most), &model{most: want}
		same(t, p, m)
		for i := range want {
			put(t, p, m, fmt.Sprint(i))
		}
		for range 3 {
			if code := p.Put("more"); code != api.ErrFull {
				t.Errorf("P17.1: Put beyond %d: code %d", want, code)
			}
			same(t, p, m)
		}
		take(t, p, m, Choice{})
		put(t, p, m, "again")
		put(t, p, m, "more")
		for range want + 2 {
			take(t, p, m, Choice{})
		}
	}
}

// P17.1: of none nothing comes, with each choice, and nothing is counted.
func TestNone(t *testing.T) {
	p, m := New(3), &model{most: 3}
	for range 2 {
		for kind := -1; kind < 4; kind++ {
			take(t, p, m, Choice{Kind: kind, Mask: 1 << 31})
		}
		put(t, p, m, "a")
		take(t, p, m, Choice{})
	}
}

// P17.2: a Kind that there isn't is as Carry, whatever At and Mask are.
func TestKinds(t *testing.T) {
	for _, kind := range []int{math.MinInt, -1, 0, 3, 4, 1 << 32, 1<<32 + 1, 1<<32 + 2, math.MaxInt} {
		p := New(1)
		p.Put("a frame")
		if s, is, comes := p.Take(Choice{Kind: kind, At: 5, Mask: math.MaxUint32}); s != "a frame" || !is || !comes {
			t.Errorf("P17.2: Kind %d: %q, %t, %t", kind, s, is, comes)
		}
		if _, came, harmed := p.Counts(); came != 1 || harmed != 0 {
			t.Errorf("P17.1: Kind %d: %d came, %d harmed", kind, came, harmed)
		}
	}
}

// P17.1: bits that change nothing spoil nothing; those of a frame do.
func TestSpoil(t *testing.T) {
	for _, x := range []struct {
		s    string
		at   int
		mask uint32
		want string
	}{
		{"abc", 0, 1 << 31, "\xe1bc"},
		{"abc", 3, 1 << 31, "qbc"},
		{"abc", 23, 1 << 31, "abb"},
		{"abc", 24, 1 << 31, "abc"},
		{"abc", 24, math.MaxUint32, "abc"},
		{"abc", -31, 1, "\xe1bc"},
		{"abc", -31, 1<<32 - 2, "abc"},
		{"abc", -32, math.MaxUint32, "abc"},
		{"abc", -8, math.MaxUint32, "\x9e\x9d\x9c"},
		{"abc", 0, 0, "abc"},
		{"abc", 0, 255, "abc"},
		{"abc", math.MinInt, math.MaxUint32, "abc"},
		{"abc", math.MaxInt, math.MaxUint32, "abc"},
		{"", 0, math.MaxUint32, ""},
	} {
		p, m := New(1), &model{most: 1}
		put(t, p, m, x.s)
		s, is, comes := p.Take(Choice{Kind: Spoil, At: x.at, Mask: x.mask})
		if s != x.want || !is || !comes {
			t.Errorf("P17.2: %q, at %d %x: %q, %t, %t, not %q", x.s, x.at, x.mask, s, is, comes, x.want)
		}
		want := [2]int{1, 0}
		if s != x.s {
			want = [2]int{0, 1}
		}
		if _, came, harmed := p.Counts(); [2]int{came, harmed} != want {
			t.Errorf("P17.1: %q, at %d %x: %d came, %d harmed", x.s, x.at, x.mask, came, harmed)
		}
	}
}

// P17.1: an empty frame is one, too.
func TestEmptyFrame(t *testing.T) {
	p, m := New(9), &model{most: 9}
	for range 4 {
		put(t, p, m, "")
	}
	for kind := range 5 {
		take(t, p, m, Choice{Kind: kind, Mask: math.MaxUint32})
	}
}

// P17.2: any calls, one behind the other, held against the model.
func TestAnyCalls(t *testing.T) {
	for most := 1; most < 20; most++ {
		p, m := New(most), &model{most: most}
		seed := uint32(most)
		below := func(n uint32) uint32 {
			seed = seed*1664525 + 1013904223
			return seed >> 8 % n
		}
		for i := range 2000 {
			// Now it fills rather than empties, now the other way round.
			switch x := below(100); {
			case x < 2:
				p = p.Clone()
			case x < 30+uint32(i/200%2)*40:
				put(t, p, m, strings.Repeat(fmt.Sprint(i), int(below(9))))
			default:
				take(t, p, m, Choice{Kind: int(below(6)) - 1, At: int(below(200)) - 60, Mask: below(1<<24) << (8 * below(5))})
			}
		}
	}
}

// P17.1: a clone goes its own way.
func TestClone(t *testing.T) {
	begin := func() (*Pipe, *model) {
		p, m := New(4), &model{most: 4}
		for i := range 7 {
			put(t, p, m, fmt.Sprint(i))
			if i%2 == 0 {
				take(t, p, m, Choice{Kind: i / 2})
			}
		}
		return p, m
	}
	for _, do := range []func(p *Pipe, m *model){
		func(p *Pipe, m *model) { put(t, p, m, "x") },
		func(p *Pipe, m *model) { take(t, p, m, Choice{}) },
		func(p *Pipe, m *model) { take(t, p, m, Choice{Kind: Lose}) },
		func(p *Pipe, m *model) {
			for range 9 {
				take(t, p, m, Choice{Kind: Spoil, Mask: 1})
				put(t, p, m, "y")
			}
		},
	} {
		p, m := begin()
		_, n := begin()
		c := p.Clone()
		same(t, c, m)
		do(c, m)
		same(t, p, n)
		do(p, n)
		same(t, c, m)
	}
}

// Rule 5: what All answers is new memory.
func TestNewMemory(t *testing.T) {
	p, m := New(9), &model{most: 9}
	for _, s := range []string{"a", "b", "c"} {
		put(t, p, m, s)
	}
	l := p.All()
	clear(l)
	_ = append(l, "d")
	same(t, p, m)
	take(t, p, m, Choice{})
	put(t, p, m, "e")
	if slices.ContainsFunc(l, func(s string) bool { return s != "" }) {
		t.Errorf("rule 5: %q", l)
	}
}

// Rule 8: a pipe embeds its row, whose calls are its own.
func TestEmbedded(t *testing.T) {
	p := New(3)
	p.Put("a")
	p.Put("b")
	if p.Ring.Len() != 2 || p.Ring.Room() != 1 || p.Most() != 3 {
		t.Errorf("rule 8: %d, %d, %d", p.Ring.Len(), p.Ring.Room(), p.Most())
	}
	if s, code := p.First(); s != "a" || code != api.OK {
		t.Errorf("rule 8: First: %q, code %d", s, code)
	}
	if s, is := p.At(1); s != "b" || !is {
		t.Errorf("rule 8: At: %q, %t", s, is)
	}
}
