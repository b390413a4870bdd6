package wire

import (
	"encoding/hex"
	"math"
	"slices"
	"strings"
	"testing"

	"polliwog/api"
	"polliwog/crc"
	"polliwog/frame"
	"polliwog/pdu"
	"polliwog/seq"
)

const greatest = 1<<24 - 1

// noise is n bytes that look like none in particular; the same each time.
func noise(n int, seed uint32) string {
	b := make([]byte, n)
	for i := range b {
		seed = seed*1664525 + 1013904223
		b[i] = byte(seed >> 24)
	}
	return string(b)
}

// run answers n numbers.
func run(n int) []seq.Num {
	var l []seq.Num
	for i := range n {
		l = append(l, seq.Num(greatest-i*7))
	}
	return l
}

// units has units that may be: of each kind a bare one, one with all it may have, and ones at which their cells turn.
func units() []pdu.PDU {
	var l []pdu.PDU
	for kind := pdu.BGN; kind <= pdu.ERAK; kind++ {
		bare := pdu.PDU{Kind: kind}
		if kind == pdu.USTAT {
			bare.List = run(2)
		}
		l = append(l, bare)
		full := bare
		switch kind {
		case pdu.BGN, pdu.RS:
			full.SQ, full.N, full.Data = 255, greatest, noise(64, 1)
		case pdu.BGAK, pdu.RSAK, pdu.ER, pdu.ERAK:
			full.SQ, full.N = 255, greatest
		case pdu.BGREJ:
			full.SQ, full.Data = 255, noise(64, 2)
		case pdu.END:
			full.SQ, full.Self, full.Data = 255, true, noise(64, 3)
		case pdu.ENDAK:
			full.SQ = 255
		case pdu.SD:
			full.N, full.Data = greatest, noise(200, 4)
		case pdu.POLL:
			full.PS, full.N = greatest, greatest
		case pdu.STAT:
			full.PS, full.MR, full.N, full.List = greatest, greatest, greatest, run(128)
		case pdu.USTAT:
			full.MR, full.N = greatest, greatest
		case pdu.UD, pdu.MD:
			full.Data = noise(200, 5)
		}
		l = append(l, full)
	}
	for n := range 201 {
		l = append(l, pdu.PDU{Kind: pdu.SD, N: seq.Num(n), Data: noise(n, 6)}, pdu.PDU{Kind: pdu.UD, Data: strings.Repeat("\x00", n)})
	}
	for n := 0; n <= 128; n += 2 {
		l = append(l, pdu.PDU{Kind: pdu.STAT, PS: 1, MR: 2, N: 3, List: run(n)})
	}
	return l
}

// bad is a unit that may not be, and for what.
type bad struct {
	p    pdu.PDU
	want api.Errno
}

// bads has units that may not be; of several faults the first one counts.
func bads() []bad {
	return []bad{
		{pdu.PDU{}, api.ErrKind},
		{pdu.PDU{Kind: -1}, api.ErrKind},
		{pdu.PDU{Kind: 16}, api.ErrKind},
		{pdu.PDU{Kind: math.MaxInt, SQ: -1, Data: noise(300, 1), List: run(200)}, api.ErrKind},
		{pdu.PDU{Kind: math.MinInt}, api.ErrKind},
		{pdu.PDU{Kind: pdu.SD, Data: noise(201, 1)}, api.ErrBig},
		{pdu.PDU{Kind: pdu.SD, Data: noise(1<<17, 1)}, api.ErrBig},
		{pdu.PDU{Kind: pdu.BGN, SQ: -1, Data: noise(65, 1)}, api.ErrBig},
		{pdu.PDU{Kind: pdu.STAT, List: run(129)}, api.ErrBig},
		{pdu.PDU{Kind: pdu.STAT, List: run(130)}, api.ErrBig},
		{pdu.PDU{Kind: pdu.POLL, List: run(200)}, api.ErrBig},
		{pdu.PDU{Kind: pdu.STAT, List: run(3)}, api.ErrArg},
		{pdu.PDU{Kind: pdu.USTAT}, api.ErrArg},
		{pdu.PDU{Kind: pdu.SD, N: greatest + 1}, api.ErrArg},
		{pdu.PDU{Kind: pdu.SD, SQ: 1}, api.ErrArg},
		{pdu.PDU{Kind: pdu.BGN, SQ: 256}, api.ErrArg},
		{pdu.PDU{Kind: pdu.BGN, SQ: -1}, api.ErrArg},
		{pdu.PDU{Kind: pdu.POLL, Self: true}, api.ErrArg},
		{pdu.PDU{Kind: pdu.ENDAK, Data: "a"}, api.ErrArg},
	}
}

// same asks whether two units are alike.
func same(p, q pdu.PDU) bool {
	return p.Kind == q.Kind && p.SQ == q.SQ && p.N == q.N && p.PS == q.PS && p.MR == q.MR &&
		slices.Equal(p.List, q.List) && p.Self == q.Self && p.Data == q.Data
}

// zero asks whether a unit has nothing.
func zero(p pdu.PDU) bool {
	return same(p, pdu.PDU{}) && p.List == nil
}

// framed answers the bytes of a frame with any User and data.
func framed(w *Wire, user byte, data string) string {
	s, _ := frame.Frame{User: user, Data: data}.Bytes(&w.Table)
	return s
}

// put answers s with its bytes from at on being those of x.
func put(s string, at int, x string) string {
	return s[:at] + x + s[at+len(x):]
}

// sealed answers s with its last four bytes made the sum of the ones ahead.
func sealed(w *Wire, s string) string {
	return w.Seal(s[:len(s)-4])
}

// wrong asks that no unit is read of a text, for this reason.
func wrong(t *testing.T, w *Wire, s string, want api.Errno, what string) {
	t.Helper()
	if p, code := w.Open(s); !zero(p) || code != want {
		t.Errorf("P7.1: %s: code %d, not %d; %+v", what, code, want, p)
	}
}

// P7.1: frames whose bytes were worked out elsewhere.
func TestBytes(t *testing.T) {
	w := New()
	for _, c := range []struct {
		p         pdu.PDU
		unit, end string
		size      int
	}{
		{pdu.PDU{Kind: pdu.SD, N: 5, Data: "ab"}, "6162000088000005", "0000000801316618", 48},
		{pdu.PDU{Kind: pdu.BGN, SQ: 1, N: 4}, "0000000101000004", "00000008afc0b054", 48},
		{pdu.PDU{Kind: pdu.UD, Data: strings.Repeat("u", 36)}, strings.Repeat("75", 36) + "0d000000", "00000028a1ca0191", 48},
		{pdu.PDU{Kind: pdu.UD, Data: strings.Repeat("u", 37)}, strings.Repeat("75", 37) + "000000cd000000", "0000002c236278c0", 96},
	} {
		unit, _ := hex.DecodeString(c.unit)
		end, _ := hex.DecodeString(c.end)
		want := string(unit) + strings.Repeat("\x00", c.size-8-len(unit)) + string(end)
		if s, code := w.Pack(c.p); s != want || code != api.OK {
			t.Errorf("P7.1: %+v: code %d, %x, not %x", c.p, code, s, want)
		}
		if p, code := w.Open(want); !same(p, c.p) || code != api.OK {
			t.Errorf("P7.2: %x: code %d, %+v, not %+v", want, code, p, c.p)
		}
	}
}

// P7.1, P7.2: there and back, by one wire and by another; as the layers below have it.
func TestThereAndBack(t *testing.T) {
	w, v := New(), New()
	for _, p := range units() {
		s, code := w.Pack(p)
		if code != api.OK || s != framed(w, 0, p.Bytes()) {
			t.Fatalf("P7.1: %+v: code %d, %x", p, code, s)
		}
		for _, x := range []*Wire{w, v} {
			if q, code := x.Open(s); code != api.OK || !same(p, q) {
				t.Fatalf("P7.2: %+v: code %d, %+v", p, code, q)
			}
		}
		if !w.Sound(s) || Size(p) != len(s) {
			t.Errorf("P7.1: %+v: sound %t, size %d, not %d", p, w.Sound(s), Size(p), len(s))
		}
	}
}

// P7.1: a unit that may not be isn't packed, has no size, and is told.
func TestPackOfBad(t *testing.T) {
	w := New()
	for _, c := range bads() {
		if s, code := w.Pack(c.p); s != "" || code != c.want {
			t.Errorf("P7.1: Pack of kind %d: code %d, not %d, %d bytes", c.p.Kind, code, c.want, len(s))
		}
		if n := Size(c.p); n != 0 {
			t.Errorf("P7.1: Size of kind %d: %d", c.p.Kind, n)
		}
	}
}

// P7.1: the chapter's example: one frame of 48 bytes without data, but a long STAT.
func TestSize(t *testing.T) {
	for _, p := range units() {
		n, want := len(p.Bytes()), 48
		for want < n+8 {
			want += 48
		}
		if got := Size(p); got != want || p.Data == "" && len(p.List) <= 6 && got != 48 {
			t.Errorf("P7.1: Size of %s with %d bytes: %d, not %d", p.Name(), n, got, want)
		}
	}
	for n, want := range map[int]int{0: 48, 6: 48, 8: 96, 18: 96, 20: 144, 128: 576} {
		if got := Size(pdu.PDU{Kind: pdu.STAT, List: run(n)}); got != want {
			t.Errorf("P7.1: Size of a STAT of %d: %d, not %d", n, got, want)
		}
	}
	for n, want := range map[int]int{0: 48, 1: 48, 36: 48, 37: 96, 84: 96, 85: 144, 200: 240} {
		if got := Size(pdu.PDU{Kind: pdu.MD, Data: noise(n, 1)}); got != want {
			t.Errorf("P7.1: Size of an MD of %d: %d, not %d", n, got, want)
		}
	}
}

// P7.1: what is wrong with the frame.
func TestOpenFrame(t *testing.T) {
	w := New()
	s, _ := w.Pack(pdu.PDU{Kind: pdu.SD, N: 5, Data: "ab"})
	wrong(t, w, "", api.ErrLength, "empty")
	wrong(t, w, s[:47], api.ErrLength, "a byte is wanting")
	wrong(t, w, s+"\x00", api.ErrLength, "a byte too many")
	wrong(t, w, w.Seal(noise(9, 1)), api.ErrLength, "no whole cells, with a sum")
	wrong(t, w, strings.Repeat("\x00", 48), api.ErrSum, "bytes 0")
	wrong(t, w, noise(96, 1), api.ErrSum, "noise")
	wrong(t, w, s+s, api.ErrSum, "two frames")
	wrong(t, w, s+strings.Repeat("\x00", 48), api.ErrSum, "a frame, and bytes 0")
	wrong(t, w, sealed(w, put(s, 42, "\x00\x29")), api.ErrLength, "another number of bytes")
	wrong(t, w, sealed(w, put(s, 8, "\x01")), api.ErrForm, "a byte behind data")
	wrong(t, w, sealed(w, put(s, 41, "\x01")), api.ErrForm, "the byte behind User")
}

// P7.1: User isn't 0; that is told ahead of what the unit has, and behind what the frame has.
func TestOpenUser(t *testing.T) {
	w := New()
	good := pdu.PDU{Kind: pdu.POLL, PS: 1, N: 2}.Bytes()
	for user := range 256 {
		s := framed(w, byte(user), good)
		if user == 0 {
			if p, code := w.Open(s); code != api.OK || p.Kind != pdu.POLL {
				t.Errorf("P7.1: User 0: code %d, %+v", code, p)
			}
			continue
		}
		wrong(t, w, s, api.ErrForm, "User")
		wrong(t, w, framed(w, byte(user), ""), api.ErrForm, "User, and no unit")
		wrong(t, w, framed(w, byte(user), "abc"), api.ErrForm, "User, and a unit's length")
		wrong(t, w, framed(w, byte(user), "\x00\x00\x00\x00"), api.ErrForm, "User, and a unit's kind")
		wrong(t, w, framed(w, byte(user), noise(201, 1)+"\x00\x00\x00\x48\x00\x00\x05"), api.ErrForm, "User, and a unit's data")
		wrong(t, w, put(s, 47, string([]byte{s[47] ^ 1})), api.ErrSum, "a sum, and User")
		wrong(t, w, sealed(w, put(s, 42, "\x01")), api.ErrLength, "a number of bytes, and User")
	}
}

// P7.1: what is wrong with the unit: just what the layer below tells.
func TestOpenUnit(t *testing.T) {
	w := New()
	for data, want := range map[string]api.Errno{
		"":                                 api.ErrLength,
		"abc":                              api.ErrLength,
		"\x00\x00\x00\x00":                 api.ErrKind,
		"\x01\x00\x00\x05":                 api.ErrLength,
		"\x48\x00\x00\x05":                 api.ErrLength,
		"\x18\x00\x00\x05":                 api.ErrForm,
		"\x28\x00\x00\x05":                 api.ErrForm,
		"a\x00\x00\x01\xc8\x00\x00\x05":    api.ErrForm,
		noise(204, 1) + "\x08\x00\x00\x05": api.ErrBig,
		strings.Repeat("\x00\x00\x00\x01", 131) + "\x0b\x00\x00\x00": api.ErrBig,
		strings.Repeat("\x00\x00\x00\x01", 3) + "\x0b\x00\x00\x00":   api.ErrForm,
	} {
		if _, code := pdu.Parse(data); code != want {
			t.Fatalf("%d bytes: code %d, not %d", len(data), code, want)
		}
		wrong(t, w, framed(w, 0, data), want, "a unit")
	}
	wrong(t, w, framed(w, 0, noise(65528, 1)+"\x08\x00\x00\x05"), api.ErrBig, "a great unit")
	wrong(t, w, framed(w, 0, noise(65535, 1)), api.ErrLength, "the greatest frame")
}

// P7.1: Sound looks at whole cells and their sum alone.
func TestSound(t *testing.T) {
	w := New()
	for n := range 300 {
		s := w.Seal(noise(n, 9))
		if got, want := w.Sound(s), len(s)%48 == 0; got != want {
			t.Errorf("P7.1: Sound of %d bytes with a sum: %t", len(s), got)
		}
		if w.Sound(noise(n, 9)) || w.Sound(strings.Repeat("\x00", n)) {
			t.Errorf("P7.1: Sound of %d bytes without a sum", n)
		}
	}
	if w.Sound("") {
		t.Error("P7.1: Sound of nothing")
	}
	for _, s := range []string{framed(w, 9, "abc"), framed(w, 0, ""), framed(w, 0, noise(65535, 1))} {
		if !w.Sound(s) || w.Sound(s[48:]) || w.Sound(s[:len(s)-1]) {
			t.Errorf("P7.1: Sound of a frame of %d bytes", len(s))
		}
	}
}

// P7.2: of any bytes there is at most one unit: what is opened is what would be packed.
func TestOneUnit(t *testing.T) {
	w := New()
	opened := 0
	open := func(s string) {
		p, code := w.Open(s)
		if code != api.OK {
			wrong(t, w, s, code, "beside an error")
			return
		}
		opened++
		if back, code := w.Pack(p); back != s || code != api.OK {
			t.Fatalf("P7.2: %x is opened, but %x is packed, code %d", s, back, code)
		}
	}
	for _, p := range units()[:30] {
		s, _ := w.Pack(p)
		for i := range len(s) - 4 {
			for _, b := range []byte{0, 1, 8, 13, 0x40, 0x80, 0x88, 0xc1, 255} {
				open(sealed(w, put(s, i, string([]byte{b}))))
			}
		}
	}
	for seed := range uint32(20000) {
		data := noise(int(seed%29), seed)
		if n := len(data); n >= 4 {
			// Half a chance that the last word is one that may be.
			data = put(data, n-4, string([]byte{data[n-4] & 15, 0}))
		}
		open(framed(w, byte(seed%11/10), data))
		open(noise(48*int(seed%4), seed))
	}
	if opened < 5000 {
		t.Errorf("P7.2: only %d were opened", opened)
	}
}

// P7.2: units that aren't alike have bytes that aren't.
func TestUnlike(t *testing.T) {
	w := New()
	seen := map[string]pdu.PDU{}
	for _, p := range units() {
		s, _ := w.Pack(p)
		if q, is := seen[s]; is && !same(p, q) {
			t.Fatalf("P7.2: %+v and %+v", p, q)
		}
		seen[s] = p
	}
}

// P7.3: a packed unit, Flipped anyhow, is told, or the same.
func TestFlipped(t *testing.T) {
	w := New()
	seed := uint32(1)
	l := append(units()[:30], pdu.PDU{Kind: pdu.SD, N: 7, Data: noise(36, 1)}, pdu.PDU{Kind: pdu.SD, N: 7, Data: noise(37, 1)})
	for _, p := range l {
		s, _ := w.Pack(p)
		for at := -40; at < 8*len(s)+8; at++ {
			for i := range 40 {
				seed = seed*1664525 + 1013904223
				masks := []uint32{0, 1 << (i % 32), 1<<31 | 1<<(i%32), math.MaxUint32 << (i % 32), seed, seed | 1<<31, 0x04c11db7, 0x82608edb}
				mask := masks[i%len(masks)]
				spoilt := frame.Flip(s, at, mask)
				q, code := w.Open(spoilt)
				if spoilt == s && (!same(p, q) || code != api.OK) || spoilt != s && (!zero(q) || code != api.ErrSum) {
					t.Fatalf("P7.3: %+v, flipped by %08x at %d: code %d, %+v", p, mask, at, code, q)
				}
				if w.Sound(spoilt) != (spoilt == s) {
					t.Fatalf("P7.3: %+v, flipped by %08x at %d: sound %t", p, mask, at, w.Sound(spoilt))
				}
			}
		}
	}
}

// P7.1: a wire has a table of its own, whose calls are the wire's too.
func TestTable(t *testing.T) {
	w, v := New(), New()
	if w.Table != crc.Make() || w == v {
		t.Error("P7.1: the table")
	}
	if got := w.Sum("1234", "56789"); got != 0xfc891918 {
		t.Errorf("P7.1: Sum: %08x", got)
	}
	if !w.Fits(v.Seal("a text")) || w.Fits("a text") {
		t.Error("P7.1: Fits and Seal")
	}
	v.Table = crc.Table{}
	if w.Table != crc.Make() {
		t.Error("rule 5: two wires share a table")
	}
}

// Rule 5: no list that is handed in is changed, its spare room neither; answers share none.
func TestMemory(t *testing.T) {
	w := New()
	l := run(8)
	want := slices.Clone(l)
	p := pdu.PDU{Kind: pdu.STAT, List: l[:4]}
	s, _ := w.Pack(p)
	if Size(p) != len(s) || !slices.Equal(l, want) || w.Table != crc.Make() {
		t.Errorf("rule 5: %v", l)
	}
	a, _ := w.Open(s)
	b, _ := w.Open(s)
	a.List[0] = 77
	if b.List[0] != want[0] || l[0] != want[0] {
		t.Error("rule 5: two answers share a list")
	}
}

// P1, rule 6: each call ends, of any bytes, and answers the same each time.
func TestCallsEnd(t *testing.T) {
	w, v := New(), New()
	for n := range 400 {
		for _, s := range []string{noise(n, 3), strings.Repeat("\x00", n), strings.Repeat("\xff", n), framed(w, byte(n), noise(n, 3)), framed(w, 0, noise(n, 4))} {
			p, code := w.Open(s)
			q, other := v.Open(s)
			if !same(p, q) || code != other || code != api.OK && !zero(p) || w.Sound(s) != v.Sound(s) {
				t.Fatalf("rule 6: %d bytes: codes %d and %d", len(s), code, other)
			}
		}
	}
}
