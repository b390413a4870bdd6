package seq

import (
	"math"
	"testing"
)

const modulus = 1 << 24

// edges has numbers at which something may turn, those of more than 24 bits among them.
func edges() []Num {
	return []Num{
		0, 1, 2, 3, 7, 65535, 65536,
		half - 2, half - 1, half, half + 1, half + 2,
		modulus - 2, modulus - 1, modulus, modulus + 1,
		modulus + half - 1, modulus + half, 3*modulus - 1, 3 * modulus,
		1<<31 - 1, 1 << 31, math.MaxUint32 - 1, math.MaxUint32,
	}
}

// steps has whole numbers at which something may turn.
func steps() []int {
	return []int{
		0, 1, -1, 2, -2, half - 1, half, half + 1, -half, modulus - 1, modulus, modulus + 1,
		-modulus - 1, -modulus, 1 - modulus, 1 << 31, -1 << 31, 1<<32 + 5, -1<<32 - 5,
		1 << 40, -1 << 40, math.MaxInt, math.MaxInt - 1, math.MinInt, math.MinInt + 1,
	}
}

// rest is the least number from 0 on that differs from x by a multiple of 2^24.
func rest(x int) Num {
	r := x % modulus
	if r < 0 {
		r += modulus
	}
	return Num(r)
}

// way is how many steps of one it is, at most most, from a to b.
func way(a, b Num, most int) (int, bool) {
	a, b = a%modulus, b%modulus
	for i := range most {
		if a == b {
			return i, true
		}
		a = (a + 1) % modulus
	}
	return 0, false
}

// P1.1: Of is the rest of any x, below 0 as well.
func TestOf(t *testing.T) {
	for _, x := range steps() {
		if got := Of(x); got != rest(x) {
			t.Errorf("P1.1: Of(%d): %d, not %d", x, got, rest(x))
		}
	}
	for x, want := range map[int]Num{-1: modulus - 1, -modulus: 0, modulus + 5: 5, 17: 17} {
		if got := Of(x); got != want {
			t.Errorf("P1.1: Of(%d): %d, not %d", x, got, want)
		}
	}
}

// P1.1: Low cuts higher bits off, and nothing else.
func TestLow(t *testing.T) {
	for _, a := range edges() {
		if got := a.Low(); got != a%modulus {
			t.Errorf("P1.1: %d.Low(): %d", a, got)
		}
	}
}

// P1.1: Add, on and back, by any number.
func TestAdd(t *testing.T) {
	for _, a := range edges() {
		for _, n := range steps() {
			want := (a%modulus + rest(n)) % modulus
			if got := a.Add(n); got != want {
				t.Errorf("P1.1: %d.Add(%d): %d, not %d", a, n, got, want)
			}
		}
	}
	if got := Num(modulus - 1).Add(1); got != 0 {
		t.Errorf("P1.1: one more than the greatest: %d", got)
	}
	if got := Num(0).Add(-1); got != modulus-1 {
		t.Errorf("P1.1: one less than 0: %d", got)
	}
}

// P1.1: To is as many steps as one has to go on.
func TestTo(t *testing.T) {
	for _, c := range []struct {
		a, b Num
		want int
	}{
		{modulus - 1, 1, 2},
		{5, 5, 0},
		{5, 4, modulus - 1},
		{0, half, half},
		{half, 0, half},
		{modulus, 3, 3},
		{math.MaxUint32, modulus + 2, 3},
		{0, modulus - 1, modulus - 1},
	} {
		if got := c.a.To(c.b); got != c.want {
			t.Errorf("P1.1: %d.To(%d): %d, not %d", c.a, c.b, got, c.want)
		}
	}
	for _, a := range edges() {
		for _, b := range edges() {
			got := a.To(b)
			if d, near := way(a, b, 40); near && got != d || !near && got < 40 {
				t.Errorf("P1.1: %d.To(%d): %d, not %d", a, b, got, d)
			}
		}
	}
}

// P1.2: what is added is To; To there and To back are 2^24 together, or nought.
func TestRoundAbout(t *testing.T) {
	for _, a := range edges() {
		for _, n := range steps() {
			if got := a.To(a.Add(n)); got != int(rest(n)) {
				t.Errorf("P1.2: from %d to it and %d: %d", a, n, got)
			}
			if got := a.Add(n).Add(-n); got != a%modulus {
				t.Errorf("P1.2: %d, on by %d, and back: %d", a, n, got)
			}
		}
		for _, b := range edges() {
			if got := a.Add(a.To(b)); got != b%modulus {
				t.Errorf("P1.2: from %d on as far as to %d: %d", a, b, got)
			}
			both, same := a.To(b)+b.To(a), a%modulus == b%modulus
			if same && both != 0 || !same && both != modulus {
				t.Errorf("P1.2: from %d to %d, and back: %d", a, b, both)
			}
		}
	}
}

// P1.1: Ahead is more than 0, and less than 2^23.
func TestAhead(t *testing.T) {
	for _, a := range edges() {
		for n, want := range map[int]bool{
			0: false, 1: true, 2: true, half - 1: true, half: false, half + 1: false,
			modulus - 1: false, modulus: false, -1: false, 1 - half: false, -half: false,
		} {
			b := a.Add(n)
			if got := a.Ahead(b); got != want {
				t.Errorf("P1.1: %d.Ahead(%d): %t", a, b, got)
			}
			if got := a.Ahead(b + 5*modulus); got != want {
				t.Errorf("P1.1: %d.Ahead(%d): %t", a, b+5*modulus, got)
			}
		}
	}
}

// walk is whether one comes to x, going on from a by steps, ahead of b, and whether at b at the latest.
func walk(a, x, b Num) (ahead, atLatest bool) {
	a, x, b = a%modulus, x%modulus, b%modulus
	for ; a != b; a = (a + 1) % modulus {
		if a == x {
			return true, true
		}
	}
	return false, x == b
}

// P1.1: Within and Between, held against a walk: all cases of few numbers about the seam.
func TestWithinNear(t *testing.T) {
	for i := range 7 {
		for j := range 7 {
			for k := i; k < 7; k++ {
				a, x, b := Of(i-3), Of(j-3), Of(k-3)
				checkWithin(t, a, x, b)
				checkWithin(t, a+modulus, x+2*modulus, b+255*modulus)
			}
		}
	}
}

// P1.1: the same for ways that go nearly all round about, and over the half.
func TestWithinFar(t *testing.T) {
	for _, c := range [][3]Num{
		{5, 4, 3}, {5, 3, 4}, {5, 4, 4}, {5, 5, 4},
		{0, half, half}, {0, half - 1, half}, {0, half + 1, half}, {0, half + 1, half + 2},
		{1, 0, modulus - 1}, {1, modulus - 1, 0}, {half, half - 1, half - 2}, {half, half - 2, half - 1},
	} {
		checkWithin(t, c[0], c[1], c[2])
	}
}

func checkWithin(t *testing.T, a, x, b Num) {
	t.Helper()
	ahead, atLatest := walk(a, x, b)
	if got := Within(a, x, b); got != atLatest {
		t.Errorf("P1.1: Within(%d, %d, %d): %t", a, x, b, got)
	}
	if got := Between(a, x, b); got != ahead {
		t.Errorf("P1.1: Between(%d, %d, %d): %t", a, x, b, got)
	}
}

// P1.1: Max is the one further from the base, as a number of 24 bits.
func TestMax(t *testing.T) {
	for _, c := range []struct{ base, a, b, want Num }{
		{0, 1, 2, 2},
		{0, 2, 1, 2},
		{3, 1, 5, 1},
		{3, 5, 1, 1},
		{modulus - 1, 0, 5, 5},
		{modulus - 1, modulus - 1, modulus - 2, modulus - 2},
		{7, 7, 8, 8},
		{7, 8, 7, 8},
		{7, 7, 6, 6},
		{0, half, half + 1, half + 1},
		{4, 9 + modulus, 9, 9},
		{4, 9, 9 + modulus, 9},
		{4 + modulus, 6 + 2*modulus, 5, 6},
		{4 + modulus, 5, 6 + 2*modulus, 6},
	} {
		if got := Max(c.base, c.a, c.b); got != c.want {
			t.Errorf("P1.1: Max(%d, %d, %d): %d, not %d", c.base, c.a, c.b, got, c.want)
		}
	}
}

// P1.1: Run is so many numbers, each one more than the one ahead.
func TestRun(t *testing.T) {
	for _, a := range edges() {
		for n, want := range map[int]int{
			math.MinInt: 0, -1: 0, 0: 0, 1: 1, 2: 2, 5: 5, 65535: 65535, 65536: 65536, 65537: 65536, math.MaxInt: 65536,
		} {
			l := Run(a, n)
			if len(l) != want {
				t.Fatalf("P1.1: Run(%d, %d) has %d", a, n, len(l))
			}
			for i, x := range l {
				if x != (a%modulus+Num(i))%modulus {
					t.Fatalf("P1.1: Run(%d, %d)[%d]: %d", a, n, i, x)
				}
			}
		}
	}
}

// Rule 5: what Run answers is new memory.
func TestRunIsNew(t *testing.T) {
	l := Run(9, 3)
	l[0] = 100
	if m := Run(9, 3); m[0] != 9 {
		t.Errorf("rule 5: %v", m)
	}
}

// P1.3: all is the same when each number is moved on alike.
func TestMovedAlike(t *testing.T) {
	for _, d := range steps() {
		for _, a := range edges() {
			for _, b := range edges() {
				a2, b2 := a.Add(d), b.Add(d)
				if a.To(b) != a2.To(b2) || a.Ahead(b) != a2.Ahead(b2) || a.Add(3).Add(d) != a2.Add(3) {
					t.Fatalf("P1.3: %d, %d, moved by %d", a, b, d)
				}
				for _, x := range []Num{0, 2, half, half + 1, modulus - 1} {
					x2 := x.Add(d)
					if Within(a, x, b) != Within(a2, x2, b2) || Between(a, x, b) != Between(a2, x2, b2) || Max(x, a, b).Add(d) != Max(x2, a2, b2) {
						t.Fatalf("P1.3: %d, %d, %d, moved by %d", a, x, b, d)
					}
				}
			}
			for i, x := range Run(a, 4) {
				if Run(a.Add(d), 4)[i] != x.Add(d) {
					t.Fatalf("P1.3: a run from %d on, moved by %d", a, d)
				}
			}
		}
	}
}

// P1: each call ends, and none panics, at any values of its arguments' types.
func TestCallsEnd(t *testing.T) {
	for _, a := range edges() {
		for _, b := range edges() {
			for _, x := range edges() {
				for _, n := range []Num{a.Low(), a.Add(int(b)), Max(a, b, x), Of(int(a) - int(b))} {
					if n >= modulus {
						t.Fatalf("P1: a number of more than 24 bits: %d", n)
					}
				}
				if d := a.To(b); d < 0 || d >= modulus {
					t.Fatalf("P1: from %d to %d: %d", a, b, d)
				}
				if Between(a, x, b) && !Within(a, x, b) {
					t.Fatalf("P1: %d between %d and %d, but not within", x, a, b)
				}
			}
		}
	}
}
