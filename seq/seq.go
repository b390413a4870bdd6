// Package seq has numbers of 24 bits, which go round about: behind the greatest one comes 0.
package seq

const (
	bits    = 24
	mask    = 1<<bits - 1
	half    = 1 << (bits - 1)
	longest = 65536 // numbers of a run
)

// Num is a number of 24 bits; of any other value its lowest 24 bits count.
type Num uint32

// Of answers the number of any x, modulo 2^24.
func Of(x int) Num {
	// An int's lowest bits are the rest of its division by 2^24, below 0 as well.
	return Num(x).Low()
}

// Low answers the number itself, without higher bits.
func (a Num) Low() Num {
	return a & mask
}

// Add answers the number that is n further on, or back, if n is below 0.
func (a Num) Add(n int) Num {
	// Num's own overflow does no harm: 2^24 divides 2^32.
	return (a + Num(n)).Low()
}

// To answers how far one has to go on from a to come to b.
func (a Num) To(b Num) int {
	return int((b - a).Low())
}

// Ahead asks whether b is ahead of a: further on, by less than half of the way round.
func (a Num) Ahead(b Num) bool {
	d := a.To(b)
	return 0 < d && d < half
}

// Within asks whether one comes to x, going on from a, ahead of b or at it.
func Within(a, x, b Num) bool {
	return a.To(x) <= a.To(b)
}

// Between asks whether one comes to x, going on from a, ahead of b.
func Between(a, x, b Num) bool {
	return a.To(x) < a.To(b)
}

// Max answers the one of a and b that is further from base.
func Max(base, a, b Num) Num {
	if base.To(a) < base.To(b) {
		return b.Low()
	}
	return a.Low()
}

// Run answers n numbers from a on: none, if n is below 0, and at most 65536.
func Run(a Num, n int) []Num {
	var l []Num
	for i := range min(n, longest) {
		l = append(l, a.Add(i))
	}
	return l
}
