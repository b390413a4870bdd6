// Package crc has the sums of AAL5 (CRC-32, the highest bit first), by a table that is made and handed down.
package crc

const (
	poly  = 0x04c11db7
	first = 0xffffffff // the register ahead of all bytes, and the bits that are turned behind them
	width = 4          // bytes of a sum
)

// Table has, for each byte, what it makes of a register that is 0 else.
type Table [256]uint32

// Make answers the table.
func Make() Table {
	var t Table
	for b := range len(t) {
		t[b] = shift(uint32(b) << 24)
	}
	return t
}

// shift moves a register on by eight bits.
func shift(r uint32) uint32 {
	for range 8 {
		out := r >> 31
		r <<= 1
		if out == 1 {
			r ^= poly
		}
	}
	return r
}

// Sum answers the sum of the texts, one behind the other.
func (t *Table) Sum(l ...string) uint32 {
	r := uint32(first)
	for _, s := range l {
		r = t.move(r, s)
	}
	return r ^ first
}

// move moves a register on by each byte of a text.
func (t *Table) move(r uint32, s string) uint32 {
	for i := range len(s) {
		r = r<<8 ^ t[byte(r>>24)^s[i]]
	}
	return r
}

// Fits asks whether the last four bytes of s are the sum of those ahead; fewer than four never are.
func (t *Table) Fits(s string) bool {
	at := len(s) - width
	return at >= 0 && s[at:] == word(t.Sum(s[:at]))
}

// Seal answers s with the four bytes of its sum behind it.
func (t *Table) Seal(s string) string {
	return s + word(t.Sum(s))
}

// word answers a sum's bytes, the highest one first.
func word(x uint32) string {
	return string([]byte{byte(x >> 24), byte(x >> 16), byte(x >> 8), byte(x)})
}
