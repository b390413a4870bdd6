package frame

import (
	"encoding/hex"
	"math"
	"strings"
	"testing"

	"polliwog/api"
	"polliwog/crc"
)

// noise is n bytes that look like none in particular; the same each time.
func noise(n int, seed uint32) string {
	b := make([]byte, n)
	for i := range b {
		seed = seed*1664525 + 1013904223
		b[i] = byte(seed >> 24)
	}
	return string(b)
}

// lengths has numbers of bytes at which something may turn.
func lengths() []int {
	return []int{0, 1, 2, 38, 39, 40, 41, 42, 47, 48, 49, 86, 87, 88, 89, 90, 95, 96, 97, 135, 136, 137, 255, 256, 257, 4095, 4096, 65487, 65488, 65534, 65535}
}

// texts has data of n bytes: of any bytes, and of such as look like those behind data.
func texts(n int) []string {
	return []string{noise(n, uint32(n)), strings.Repeat("\x00", n), strings.Repeat("\xff", n)}
}

// put answers s with its bytes from at on being those of x.
func put(s string, at int, x string) string {
	return s[:at] + x + s[at+len(x):]
}

// sealed answers s with its last four bytes made the sum of the ones ahead.
func sealed(t *crc.Table, s string) string {
	return t.Seal(s[:len(s)-4])
}

// told answers s with another number of bytes, and a sum that fits.
func told(t *crc.Table, s string, n int) string {
	return sealed(t, put(s, len(s)-6, string([]byte{byte(n >> 8), byte(n)})))
}

// wrong asks that a text isn't any frame, for this reason.
func wrong(t *testing.T, x *crc.Table, s string, want api.Errno, what string) {
	t.Helper()
	if f, code := Parse(x, s); f != (Frame{}) || code != want {
		t.Errorf("%s: code %d, not %d; User %d, %d bytes", what, code, want, f.User, len(f.Data))
	}
}

// P5.1: frames whose bytes were worked out elsewhere, the chapter's example first.
func TestBytes(t *testing.T) {
	x := crc.Make()
	for _, c := range []struct {
		f    Frame
		size int
		end  string
	}{
		{Frame{}, 48, "00000000386624c1"},
		{Frame{255, "a"}, 48, "ff0000013b501a41"},
		{Frame{0, "ab\x00"}, 48, "00000003bff97665"},
		{Frame{7, strings.Repeat("x", 40)}, 48, "07000028a824bead"},
		{Frame{7, strings.Repeat("x", 41)}, 96, "0700002942d872a3"},
		{Frame{1, strings.Repeat("y", 300)}, 336, "0100012c5acade08"},
	} {
		end, _ := hex.DecodeString(c.end)
		want := c.f.Data + strings.Repeat("\x00", c.size-8-len(c.f.Data)) + string(end)
		if s, code := c.f.Bytes(&x); s != want || code != api.OK {
			t.Errorf("P5.1: %d bytes of data: code %d, %x", len(c.f.Data), code, s)
		}
		if f, code := Parse(&x, want); f != c.f || code != api.OK {
			t.Errorf("P5.1: and back, %d bytes of data: code %d, %v", len(c.f.Data), code, f)
		}
	}
}

// P5.1, P5.2: there and back, of data of any length, and as the chapter's words say it.
func TestThereAndBack(t *testing.T) {
	x := crc.Make()
	for _, n := range lengths() {
		for _, data := range texts(n) {
			for _, user := range []byte{0, 1, 128, 255} {
				s, code := Frame{user, data}.Bytes(&x)
				if code != api.OK || len(s)%48 != 0 || len(s) < n+8 || len(s) >= n+8+48 {
					t.Fatalf("P5.1: %d bytes: code %d, %d bytes", n, code, len(s))
				}
				want := data + strings.Repeat("\x00", len(s)-n-8) + string([]byte{user, 0, byte(n / 256), byte(n % 256)})
				if s != x.Seal(want) {
					t.Fatalf("P5.1: %d bytes: not as they should be", n)
				}
				if f, code := Parse(&x, s); f != (Frame{user, data}) || code != api.OK {
					t.Fatalf("P5.2: %d bytes: code %d, %d bytes", n, code, len(f.Data))
				}
			}
		}
	}
}

// P5.1: more data than a frame may have.
func TestBig(t *testing.T) {
	x := crc.Make()
	for _, n := range []int{65536, 65537, 65536 + 40, 2 * 65536, 1 << 20} {
		if s, code := (Frame{3, strings.Repeat("a", n)}).Bytes(&x); s != "" || code != api.ErrBig {
			t.Errorf("P5.1: %d bytes: code %d, %d bytes", n, code, len(s))
		}
	}
}

// P5.1: empty, or no multiple of 48 bytes, with a sum that fits too.
func TestParseLength(t *testing.T) {
	x := crc.Make()
	wrong(t, &x, "", api.ErrLength, "P5.1: empty")
	for n := range 200 {
		if n%48 == 0 {
			continue
		}
		wrong(t, &x, noise(n, 1), api.ErrLength, "P5.1: noise")
		wrong(t, &x, strings.Repeat("\x00", n), api.ErrLength, "P5.1: bytes 0")
		if n >= 8 {
			wrong(t, &x, x.Seal(strings.Repeat("\x00", n-4)), api.ErrLength, "P5.1: no whole cells, with a sum")
		}
	}
}

// P5.1: a sum that doesn't fit.
func TestParseSum(t *testing.T) {
	x := crc.Make()
	for n := 48; n < 300; n += 48 {
		wrong(t, &x, noise(n, 1), api.ErrSum, "P5.1: noise")
		wrong(t, &x, strings.Repeat("\x00", n), api.ErrSum, "P5.1: bytes 0")
	}
	for _, n := range []int{0, 20, 40, 41, 89} {
		s, _ := Frame{9, noise(n, 4)}.Bytes(&x)
		for i := range s {
			for _, turned := range []byte{1, 16, 128, 255} {
				wrong(t, &x, put(s, i, string([]byte{s[i] ^ turned})), api.ErrSum, "P5.1: a byte turned")
			}
		}
		sum := s[len(s)-4:]
		wrong(t, &x, put(s, len(s)-4, string([]byte{sum[3], sum[2], sum[1], sum[0]})), api.ErrSum, "P5.1: the sum's lowest byte first")
	}
}

// P5.1: with a sum that fits: each number of bytes, of which just these cells would be made, or others.
func TestParseNumber(t *testing.T) {
	x := crc.Make()
	for cells := 1; cells <= 4; cells++ {
		s := strings.Repeat("\x00", 48*cells)
		for n := range 65536 {
			if 48*cells-8 >= n && n > 48*(cells-1)-8 {
				if f, code := Parse(&x, told(&x, s, n)); len(f.Data) != n || code != api.OK {
					t.Fatalf("P5.1: %d bytes in %d cells: code %d, %d bytes", n, cells, code, len(f.Data))
				}
				continue
			}
			wrong(t, &x, told(&x, s, n), api.ErrLength, "P5.1: another number")
		}
	}
	for _, c := range []struct{ n, cells int }{{0, 1366}, {65479, 1366}, {65480, 1366}, {65535, 1365}, {65535, 1367}, {65535, 2732}, {0, 1367}, {65535, 1}} {
		s := told(&x, strings.Repeat("\x00", 48*c.cells), c.n)
		wrong(t, &x, s, api.ErrLength, "P5.1: another number, far off")
	}
}

// P5.1: with a sum that fits: each byte that should be 0, and isn't.
func TestParseForm(t *testing.T) {
	x := crc.Make()
	for _, n := range []int{0, 1, 38, 39, 40, 41, 48, 87, 88, 89} {
		s, _ := Frame{5, noise(n, 2)}.Bytes(&x)
		for i := n; i < len(s)-8; i++ {
			for _, b := range []string{"\x01", "\x80", "\xff", " "} {
				wrong(t, &x, sealed(&x, put(s, i, b)), api.ErrForm, "P5.1: a byte behind data")
			}
		}
		for _, b := range []string{"\x01", "\x05", "\x80", "\xff"} {
			wrong(t, &x, sealed(&x, put(s, len(s)-7, b)), api.ErrForm, "P5.1: the byte ahead of the number")
		}
		for _, b := range []byte{0, 1, 128, 255} {
			if f, code := Parse(&x, sealed(&x, put(s, len(s)-8, string([]byte{b})))); f.User != b || code != api.OK {
				t.Errorf("P5.1: User %d: code %d, %d", b, code, f.User)
			}
		}
	}
}

// P5.1: of several faults the first one is told.
func TestFirstFault(t *testing.T) {
	x := crc.Make()
	s, _ := Frame{5, "some data"}.Bytes(&x)
	form := put(put(s, 41, "\x01"), 20, "\x01")
	number := told(&x, form, 41)
	wrong(t, &x, sealed(&x, form), api.ErrForm, "P5.1: two bytes that should be 0")
	wrong(t, &x, number, api.ErrLength, "P5.1: a number, and bytes that should be 0")
	wrong(t, &x, put(number, 47, string([]byte{number[47] ^ 1})), api.ErrSum, "P5.1: a sum, a number, and bytes that should be 0")
	wrong(t, &x, put(form, 47, string([]byte{s[47] ^ 1})), api.ErrSum, "P5.1: a sum, and bytes that should be 0")
	wrong(t, &x, number[:47], api.ErrLength, "P5.1: a length, and all else")
	wrong(t, &x, "\x00"+number, api.ErrLength, "P5.1: a length, and bytes that should be 0")
}

// P5.2: of any bytes there is at most one frame: what is read is what would be written.
func TestOneFrame(t *testing.T) {
	x := crc.Make()
	seen := map[string]Frame{}
	read := func(s string) {
		f, code := Parse(&x, s)
		if code != api.OK {
			wrong(t, &x, s, code, "P5.2: beside an error")
			return
		}
		if back, _ := f.Bytes(&x); back != s {
			t.Fatalf("P5.2: %x is read, but %x is written", s, back)
		}
		if g, is := seen[s]; is && g != f {
			t.Fatalf("P5.2: %v and %v", f, g)
		}
		seen[s] = f
	}
	for _, n := range []int{0, 1, 39, 40, 41, 87, 88, 89} {
		s, _ := Frame{byte(n), noise(n, 3)}.Bytes(&x)
		for i := range len(s) - 4 {
			for b := range 256 {
				read(sealed(&x, put(s, i, string([]byte{byte(b)}))))
			}
		}
		for seed := range uint32(2000) {
			any := noise(len(s), seed)
			read(any)
			read(told(&x, put(any, len(s)-7, "\x00"), int(seed)%(len(s)+3)))
		}
	}
}

// P5.1: Cells is the least number of cells that has room for data and the trailer.
func TestCells(t *testing.T) {
	for n, want := range map[int]int{
		math.MinInt: 1, -1000: 1, -8: 1, -1: 1, 0: 1, 1: 1, 39: 1, 40: 1, 41: 2, 87: 2, 88: 2, 89: 3, 136: 3, 137: 4, 65535: 1366,
		math.MaxInt32: 44739243, math.MaxInt: 192153584101141163,
	} {
		if got := Cells(n); got != want {
			t.Errorf("P5.1: Cells(%d): %d, not %d", n, got, want)
		}
	}
	want := 1
	for n := range 70000 {
		if 48*want < n+8 {
			want++
		}
		if got := Cells(n); got != want {
			t.Fatalf("P5.1: Cells(%d): %d, not %d", n, got, want)
		}
	}
	x := crc.Make()
	for _, n := range lengths() {
		if s, _ := (Frame{0, noise(n, 0)}).Bytes(&x); len(s) != 48*Cells(n) {
			t.Errorf("P5.1: Cells(%d): %d, but %d bytes", n, Cells(n), len(s))
		}
	}
}

// P5.1: Flip, ahead of a text, over its ends, and behind it.
func TestFlip(t *testing.T) {
	zero := "\x00\x00\x00\x00\x00\x00"
	for _, c := range []struct {
		s    string
		at   int
		mask uint32
		want string
	}{
		{zero, 0, 0, zero},
		{zero, 0, 1 << 31, "\x80\x00\x00\x00\x00\x00"},
		{zero, 0, 1, "\x00\x00\x00\x01\x00\x00"},
		{zero, 1, 1 << 31, "\x40\x00\x00\x00\x00\x00"},
		{zero, 7, 3 << 30, "\x01\x80\x00\x00\x00\x00"},
		{zero, 8, 0x12345678, "\x00\x12\x34\x56\x78\x00"},
		{zero, 12, 0x12345678, "\x00\x01\x23\x45\x67\x80"},
		{zero, 16, 0x12345678, "\x00\x00\x12\x34\x56\x78"},
		{zero, 24, 0x12345678, "\x00\x00\x00\x12\x34\x56"},
		{zero, 40, 0x12345678, "\x00\x00\x00\x00\x00\x12"},
		{zero, 44, 0x12345678, "\x00\x00\x00\x00\x00\x01"},
		{zero, 47, 1 << 31, "\x00\x00\x00\x00\x00\x01"},
		{zero, 48, math.MaxUint32, zero},
		{zero, 1000, math.MaxUint32, zero},
		{zero, -4, 0x12345678, "\x23\x45\x67\x80\x00\x00"},
		{zero, -31, math.MaxUint32, "\x80\x00\x00\x00\x00\x00"},
		{zero, -32, math.MaxUint32, zero},
		{zero, -8, 0xff000000, zero},
		{"a", 2, 1 << 31, "A"},
		{"a", -3, math.MaxUint32, "\x9e"},
		{"\xff\xfe\xc3", 0, math.MaxUint32, "\x00\x01\x3c"},
		{"", 0, math.MaxUint32, ""},
		{"", -5, math.MaxUint32, ""},
		{zero, math.MaxInt, math.MaxUint32, zero},
		{zero, math.MaxInt - 31, math.MaxUint32, zero},
		{zero, math.MinInt, math.MaxUint32, zero},
		{zero, math.MinInt + 31, math.MaxUint32, zero},
		{zero, 1<<32 + 3, math.MaxUint32, zero},
		{zero, -1 << 32, math.MaxUint32, zero},
	} {
		if got := Flip(c.s, c.at, c.mask); got != c.want {
			t.Errorf("P5.1: Flip(%x, %d, %08x): %x, not %x", c.s, c.at, c.mask, got, c.want)
		}
		if back := Flip(Flip(c.s, c.at, c.mask), c.at, c.mask); back != c.s {
			t.Errorf("P5.1: Flip(%x, %d, %08x), twice: %x", c.s, c.at, c.mask, back)
		}
	}
}

// digits answers a text's bits, as digits 0 and 1.
func digits(s string) []byte {
	var l []byte
	for i := range len(s) {
		for b := range 8 {
			l = append(l, '0'+s[i]>>(7-b)&1)
		}
	}
	return l
}

// P5.1: Flip, held against bits that are written out, between bits that don't count.
func TestFlipAnywhere(t *testing.T) {
	const margin = 40
	for _, n := range []int{0, 1, 3, 4, 5, 48} {
		s := noise(n, 8)
		for at := -margin; at < 8*n+margin-32; at++ {
			for _, mask := range []uint32{1 << 31, 1, math.MaxUint32, 0x80000001, 0x12345678, 0x0f0f0f0f, uint32(at) * 2654435761} {
				wide := make([]byte, margin+8*n+margin)
				copy(wide[margin:], digits(s))
				for i := range 32 {
					wide[margin+at+i] ^= byte(mask >> (31 - i) & 1)
				}
				if got := Flip(s, at, mask); string(digits(got)) != string(wide[margin:margin+8*n]) {
					t.Fatalf("P5.1: Flip(%x, %d, %08x): %x", s, at, mask, got)
				}
			}
		}
	}
}

// P5.3: a frame's bytes, Flipped anyhow, are the same, or don't fit.
func TestFlippedIsTold(t *testing.T) {
	x := crc.Make()
	seed := uint32(1)
	for _, f := range []Frame{{}, {0, "a"}, {255, noise(40, 1)}, {3, noise(41, 1)}, {0, strings.Repeat("\x00", 60)}, {9, strings.Repeat("\xff", 88)}} {
		s, _ := f.Bytes(&x)
		for at := -40; at < 8*len(s)+8; at++ {
			for i := range 60 {
				seed = seed*1664525 + 1013904223
				masks := []uint32{0, 1 << (i % 32), 1<<31 | 1<<(i%32), math.MaxUint32 << (i % 32), seed, seed | 1<<31, 0x04c11db7, 0x82608edb}
				spoilt := Flip(s, at, masks[i%len(masks)])
				g, code := Parse(&x, spoilt)
				if spoilt == s && (g != f || code != api.OK) || spoilt != s && (g != (Frame{}) || code != api.ErrSum) {
					t.Fatalf("P5.3: %d bytes, flipped by %08x at %d: code %d", len(s), masks[i%len(masks)], at, code)
				}
			}
		}
	}
}

// P1, rules 5 and 6: each call ends, of any bytes; tables and texts stay as they are, and answers are the same each time.
func TestCallsEnd(t *testing.T) {
	x, y := crc.Make(), crc.Make()
	for n := range 200 {
		for _, s := range texts(n) {
			a, e := Frame{byte(n), s}.Bytes(&x)
			b, d := Frame{byte(n), s}.Bytes(&y)
			if a != b || e != d || e != api.OK {
				t.Fatalf("rule 6: %d bytes: codes %d and %d", n, e, d)
			}
			f, e := Parse(&x, s)
			g, d := Parse(&y, s)
			if f != g || e != d {
				t.Fatalf("rule 6: %d bytes: codes %d and %d", n, e, d)
			}
		}
	}
	if x != crc.Make() {
		t.Error("rule 5: a table is changed")
	}
}
