package crc

import (
	"strings"
	"testing"
)

// slow is the sum of s, worked out bit by bit, as the chapter's words say it.
func slow(s string) uint32 {
	r := ^uint32(0)
	for i := range len(s) {
		r ^= uint32(s[i]) << 24
		for range 8 {
			if r&(1<<31) != 0 {
				r = r<<1 ^ 0x04c11db7
			} else {
				r <<= 1
			}
		}
	}
	return ^r
}

// noise is n bytes that look like none in particular; the same each time.
func noise(n int, seed uint32) string {
	b := make([]byte, n)
	for i := range b {
		seed = seed*1664525 + 1013904223
		b[i] = byte(seed >> 24)
	}
	return string(b)
}

func texts() []string {
	l := []string{
		"", "a", "ab", "abc", "abcd", "abcde", "123456789", "\x00", "\x00\x00\x00\x00", "\xff", "\xff\xff\xff\xff",
		"\xff\xff\xff\xff\x00\x00\x00\x00", "\x80\xfe\xc3\x28", "häßlich", strings.Repeat("\x00", 48), strings.Repeat("\xff", 257),
	}
	for n := range 60 {
		l = append(l, noise(n, uint32(n)))
	}
	return append(l, noise(70000, 7))
}

// P2.1: Table[b] is the register 0, moved on by b.
func TestMake(t *testing.T) {
	x := Make()
	for b := range 256 {
		r := uint32(b) << 24
		for range 8 {
			if r&(1<<31) != 0 {
				r = r<<1 ^ 0x04c11db7
			} else {
				r <<= 1
			}
		}
		if x[b] != r {
			t.Errorf("P2.1: Table[%d]: %08x, not %08x", b, x[b], r)
		}
	}
	for b, want := range map[int]uint32{0: 0, 1: 0x04c11db7, 2: 0x09823b6e, 128: 0x690ce0ee, 255: 0xb1f740b4} {
		if x[b] != want {
			t.Errorf("P2.1: Table[%d]: %08x, not %08x", b, x[b], want)
		}
	}
	if Make() != x {
		t.Error("P2.1: two tables are unlike")
	}
}

// P2.1: sums that are known, and such as are worked out bit by bit.
func TestSum(t *testing.T) {
	x := Make()
	for s, want := range map[string]uint32{"123456789": 0xfc891918, "": 0, "\x00\x00\x00\x00": 0x38fb2284, "\xff\xff\xff\xff": 0xffffffff} {
		if got := x.Sum(s); got != want {
			t.Errorf("P2.1: the sum of %q: %08x, not %08x", s, got, want)
		}
	}
	for _, s := range texts() {
		if got := x.Sum(s); got != slow(s) {
			t.Errorf("P2.1: the sum of %d bytes: %08x, not %08x", len(s), got, slow(s))
		}
	}
}

// P2.1: the sum of texts is that of them all, one behind the other.
func TestSumOfSome(t *testing.T) {
	x := Make()
	if got := x.Sum(); got != 0 {
		t.Errorf("P2.1: the sum of none: %08x", got)
	}
	if got := x.Sum("", "", ""); got != 0 {
		t.Errorf("P2.1: the sum of empty ones: %08x", got)
	}
	s := noise(100, 3)
	want := slow(s)
	for i := range len(s) + 1 {
		if got := x.Sum(s[:i], s[i:]); got != want {
			t.Errorf("P2.1: cut at %d: %08x, not %08x", i, got, want)
		}
		if got := x.Sum(s[:i/2], "", s[i/2:i], s[i:]); got != want {
			t.Errorf("P2.1: cut at %d and %d: %08x, not %08x", i/2, i, got, want)
		}
	}
	if got := x.Sum(strings.Split(s, "")...); got != want {
		t.Errorf("P2.1: letter by letter: %08x, not %08x", got, want)
	}
	if x.Sum("ab", "c") == x.Sum("c", "ab") {
		t.Error("P2.1: the order of texts doesn't count")
	}
}

// Rule 5: no list that is handed in is changed.
func TestSumLeavesItsTexts(t *testing.T) {
	x, l := Make(), []string{"a", "b", "c", "spare"}
	x.Sum(l[:3]...)
	if strings.Join(l, " ") != "a b c spare" || x != Make() {
		t.Errorf("rule 5: %v", l)
	}
}

// P2.1: Seal is s, and its sum, the highest byte first.
func TestSeal(t *testing.T) {
	x := Make()
	for s, want := range map[string]string{"": "\x00\x00\x00\x00", "123456789": "123456789\xfc\x89\x19\x18"} {
		if got := x.Seal(s); got != want {
			t.Errorf("P2.1: Seal(%q): %q", s, got)
		}
	}
	for _, s := range texts() {
		got, sum := x.Seal(s), slow(s)
		if got != s+string([]byte{byte(sum >> 24), byte(sum >> 16), byte(sum >> 8), byte(sum)}) {
			t.Errorf("P2.1: Seal of %d bytes: %q", len(s), got)
		}
	}
}

// P2.2: Seal Fits, whatever is sealed, a sealed one too.
func TestSealFits(t *testing.T) {
	x := Make()
	for _, s := range texts() {
		if !x.Fits(x.Seal(s)) || !x.Fits(x.Seal(x.Seal(s))) {
			t.Errorf("P2.2: %d bytes, sealed, don't fit", len(s))
		}
	}
}

// P2.1: fewer than four bytes never fit, and four do just if they are 0.
func TestFitsShort(t *testing.T) {
	x := Make()
	for _, s := range []string{"", "\x00", "\x00\x00", "\x00\x00\x00", "a", "abc", "\xff\xff\xff"} {
		if x.Fits(s) {
			t.Errorf("P2.1: %q fits", s)
		}
	}
	for s, want := range map[string]bool{
		"\x00\x00\x00\x00": true, "\x00\x00\x00\x01": false, "\x01\x00\x00\x00": false, "\xff\xff\xff\xff": false,
		"\x00\x00\x00\x00\x00":               false,
		"\xff\xff\xff\xff\xff\xff\xff\xff":   true,
		"123456789\xfc\x89\x19\x18":          true,
		"123456789\x18\x19\x89\xfc":          false,
		"123456789\xfc\x89\x19":              false,
		"123456789\xfc\x89\x19\x18\x00":      false,
		"\x00123456789\xfc\x89\x19\x18":      false,
		"123456789":                          false,
		strings.Repeat("\x00", 48):           false,
		strings.Repeat("\xff", 48):           false,
		"123456789\xfc\x89\x19\x18\xff\xff ": false,
	} {
		if x.Fits(s) != want {
			t.Errorf("P2.1: Fits(%q): %t", s, !want)
		}
	}
}

// turn answers s with the mask's bits turned, its highest bit at the at-th bit of s; false: some lie outside of s.
func turn(s string, at int, mask uint32) (string, bool) {
	b := []byte(s)
	for i := range 32 {
		if mask>>(31-i)&1 == 0 {
			continue
		}
		if at+i >= 8*len(b) {
			return "", false
		}
		b[(at+i)/8] ^= 0x80 >> ((at + i) % 8)
	}
	return string(b), true
}

// masks has masks whose highest bit is 1: all that lie within 8 bits, and some that reach further.
func masks() []uint32 {
	var l []uint32
	for m := range uint32(128) {
		l = append(l, (m|128)<<24)
	}
	for i := range 32 {
		l = append(l, 1<<31|1<<i, ^uint32(0)<<i, 0x04c11db7<<5|1<<i, 0x82608edb|1<<i)
	}
	seed := uint32(1)
	for range 200 {
		seed = seed*1664525 + 1013904223
		l = append(l, seed|1<<31, seed|1<<31|1)
	}
	return l
}

// P2.2: with bits turned within 32 bits a sealed text doesn't fit, also over the seam to its sum.
func TestTurnedDoesNotFit(t *testing.T) {
	x := Make()
	for _, s := range []string{"", "a", "ab", "\x00\x00\x00", "\xff\xff\xff\xff", "12345678", noise(23, 5), noise(44, 6)} {
		sealed := x.Seal(s)
		for at := range 8 * len(sealed) {
			for _, m := range masks() {
				if spoilt, ok := turn(sealed, at, m); ok && x.Fits(spoilt) {
					t.Fatalf("P2.2: %q fits with %08x turned at %d", sealed, m, at)
				}
			}
		}
	}
}

// P2.2: each single bit of a long text counts.
func TestTurnedBitOfLong(t *testing.T) {
	x := Make()
	sealed := x.Seal(noise(480, 9))
	for at := range 8 * len(sealed) {
		if spoilt, _ := turn(sealed, at, 1<<31); x.Fits(spoilt) {
			t.Fatalf("P2.2: bit %d doesn't count", at)
		}
	}
}

// P1, rule 6: each call ends, of any bytes, and answers the same each time.
func TestCallsEnd(t *testing.T) {
	x, y := Make(), Make()
	for _, s := range texts() {
		if x.Sum(s) != y.Sum(s) || x.Seal(s) != y.Seal(s) || x.Fits(s) != y.Fits(s) {
			t.Errorf("rule 6: %d bytes", len(s))
		}
	}
}
