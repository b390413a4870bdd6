package pdu

import (
	"encoding/hex"
	"math"
	"slices"
	"strings"
	"testing"

	"polliwog/api"
	"polliwog/seq"
)

const greatest = 1<<24 - 1

// row is a row of the chapter's table.
type row struct {
	kind  int
	name  string
	words string // ahead of the last one; l: one of List, l*: so many as there are
	n     bool
	self  bool
	data  int
}

// table has all rows, by rising numbers.
func table() []row {
	return []row{
		{BGN, "bgn", "sq", true, false, 64},
		{BGAK, "bgak", "sq", true, false, 0},
		{END, "end", "sq", false, true, 64},
		{ENDAK, "endak", "sq", false, false, 0},
		{RS, "rs", "sq", true, false, 64},
		{RSAK, "rsak", "sq", true, false, 0},
		{BGREJ, "bgrej", "sq", false, false, 64},
		{SD, "sd", "", true, false, 200},
		{ER, "er", "sq", true, false, 0},
		{POLL, "poll", "ps", true, false, 0},
		{STAT, "stat", "l* ps mr", true, false, 0},
		{USTAT, "ustat", "l l mr", true, false, 0},
		{UD, "ud", "", false, false, 200},
		{MD, "md", "", false, false, 200},
		{ERAK, "erak", "sq", true, false, 0},
	}
}

// has asks whether a word stands ahead of the last one.
func (r row) has(word string) bool {
	return slices.Contains(strings.Fields(r.words), word)
}

// unit answers a unit that has all it may have, with so many bytes of data as far as there may be.
func (r row) unit(data int) PDU {
	p := PDU{Kind: r.kind, Self: r.self, Data: strings.Repeat("\xfe", min(data, r.data))}
	if r.has("sq") {
		p.SQ = 0xc5
	}
	if r.n {
		p.N = 0xfedcba
	}
	if r.has("ps") {
		p.PS = 0x010203
	}
	if r.has("mr") {
		p.MR = 0x800001
	}
	if r.has("l") || r.has("l*") {
		p.List = []seq.Num{7, greatest}
	}
	return p
}

// same asks whether two units are alike.
func same(p, q PDU) bool {
	return p.Kind == q.Kind && p.SQ == q.SQ && p.N == q.N && p.PS == q.PS && p.MR == q.MR &&
		slices.Equal(p.List, q.List) && p.Self == q.Self && p.Data == q.Data
}

// word answers four bytes, the highest one first.
func word(x uint32) string {
	return string([]byte{byte(x >> 24), byte(x >> 16), byte(x >> 8), byte(x)})
}

// run answers n numbers.
func run(n int) []seq.Num {
	l := make([]seq.Num, n)
	for i := range l {
		l[i] = seq.Num(i * 3)
	}
	return l
}

// may asks that a unit may be, that its bytes are these, and that they say just this.
func may(t *testing.T, p PDU, want string) {
	t.Helper()
	if code := p.Check(); code != api.OK {
		t.Errorf("P6.1: Check of %+v: code %d", p, code)
	}
	if got := p.Bytes(); got != want {
		t.Errorf("P6.1: bytes of %+v: %x, not %x", p, got, want)
	}
	if q, code := Parse(want); code != api.OK || !same(p, q) {
		t.Errorf("P6.2: %x: code %d, %+v, not %+v", want, code, q, p)
	}
}

// mayNot asks that a unit may not be, for this reason.
func mayNot(t *testing.T, p PDU, want api.Errno) {
	t.Helper()
	if code := p.Check(); code != want {
		t.Errorf("P6.1: Check of %+v: code %d, not %d", p, code, want)
	}
	if got := p.Bytes(); got != "" {
		t.Errorf("P6.1: bytes of %+v: %x", p, got)
	}
}

// wrong asks that bytes aren't any unit's, for this reason.
func wrong(t *testing.T, s string, want api.Errno, what string) {
	t.Helper()
	p, code := Parse(s)
	if code != want || !same(p, PDU{}) || p.List != nil {
		t.Errorf("P6.1: %s: %x: code %d, not %d, %+v", what, s, code, want, p)
	}
}

// P6.1, P6.2: each kind there and back, with bytes that are written out, the chapter's example among them.
func TestKinds(t *testing.T) {
	for _, c := range []struct {
		p    PDU
		want string
	}{
		{PDU{Kind: 8, N: 5, Data: "ab"}, "61620000" + "88000005"},
		{PDU{Kind: 1, SQ: 1, N: 4}, "00000001" + "01000004"},
		{PDU{Kind: 1, SQ: 255, N: greatest, Data: "a"}, "61000000" + "000000ff" + "c1ffffff"},
		{PDU{Kind: 2, SQ: 17, N: 0x123456}, "00000011" + "02123456"},
		{PDU{Kind: 3, SQ: 2}, "00000002" + "03000000"},
		{PDU{Kind: 3, SQ: 2, Self: true, Data: "abc"}, "61626300" + "00000002" + "63000000"},
		{PDU{Kind: 4, SQ: 9}, "00000009" + "04000000"},
		{PDU{Kind: 5, SQ: 3, N: 8, Data: "abcd"}, "61626364" + "00000003" + "05000008"},
		{PDU{Kind: 6, SQ: 3, N: 8}, "00000003" + "06000008"},
		{PDU{Kind: 7, SQ: 200, Data: "n"}, "6e000000" + "000000c8" + "c7000000"},
		{PDU{Kind: 8}, "08000000"},
		{PDU{Kind: 9, SQ: 1, N: 2}, "00000001" + "09000002"},
		{PDU{Kind: 10, PS: 0xabcdef, N: 7}, "00abcdef" + "0a000007"},
		{PDU{Kind: 11, PS: 1, MR: 2, N: 3}, "00000001" + "00000002" + "0b000003"},
		{PDU{Kind: 11, PS: 9, MR: 40, N: 3, List: []seq.Num{3, 5}}, "00000003" + "00000005" + "00000009" + "00000028" + "0b000003"},
		{PDU{Kind: 12, MR: 4, N: 1, List: []seq.Num{0, greatest}}, "00000000" + "00ffffff" + "00000004" + "0c000001"},
		{PDU{Kind: 13, Data: "u"}, "75000000" + "cd000000"},
		{PDU{Kind: 13}, "0d000000"},
		{PDU{Kind: 14, Data: "\x00\xff"}, "00ff0000" + "8e000000"},
		{PDU{Kind: 15, SQ: 255, N: 1}, "000000ff" + "0f000001"},
	} {
		want, _ := hex.DecodeString(c.want)
		may(t, c.p, string(want))
	}
}

// P6.1: the kinds' numbers and names.
func TestNames(t *testing.T) {
	for i, r := range table() {
		if r.kind != i+1 {
			t.Errorf("P6.1: %s is %d, not %d", r.name, r.kind, i+1)
		}
		if got := (PDU{Kind: r.kind}).Name(); got != r.name {
			t.Errorf("P6.1: the name of %d: %q", r.kind, got)
		}
		if got := r.unit(9).Name(); got != r.name {
			t.Errorf("P6.1: the name of %d: %q", r.kind, got)
		}
	}
	for _, kind := range strange() {
		if got := (PDU{Kind: kind}).Name(); got != "" {
			t.Errorf("P6.1: the name of %d: %q", kind, got)
		}
	}
}

// strange has kinds that there aren't.
func strange() []int {
	return []int{0, -1, 16, 17, 31, 255, 256 + 8, 1<<32 + 8, math.MinInt, math.MaxInt}
}

// P6.1: there is no such kind, whatever else is wrong.
func TestStrangeKinds(t *testing.T) {
	for _, kind := range strange() {
		mayNot(t, PDU{Kind: kind}, api.ErrKind)
		mayNot(t, PDU{Kind: kind, SQ: -1, Data: strings.Repeat("a", 1000), List: run(1000)}, api.ErrKind)
	}
}

// P6.1, P6.2: data of each length up to its bound; of one more and more it is too much, or is where there is none.
func TestData(t *testing.T) {
	for _, r := range table() {
		for n := range 300 {
			p := r.unit(0)
			words := strings.TrimPrefix(p.Bytes(), p.Data)
			p.Data = strings.Repeat("\x00\xfe", n)[:n]
			zeros := (4 - n%4) % 4
			switch {
			case n <= r.data:
				last := len(words) - 4
				lead := string([]byte{words[last] | byte(zeros)<<6})
				may(t, p, p.Data+strings.Repeat("\x00", zeros)+words[:last]+lead+words[last+1:])
			case r.data > 0:
				mayNot(t, p, api.ErrBig)
			default:
				mayNot(t, p, api.ErrArg)
			}
		}
	}
}

// P6.1, P6.2: a List of so many, of each kind.
func TestLists(t *testing.T) {
	for _, r := range table() {
		for _, n := range []int{0, 1, 2, 3, 4, 126, 127, 128, 129, 130, 1000} {
			p := r.unit(0)
			p.List = run(n)
			switch {
			case n > 128:
				mayNot(t, p, api.ErrBig)
			case r.has("l*") && n%2 == 0, r.has("l") && n == 2, n == 0 && !r.has("l"):
				if q, code := Parse(p.Bytes()); p.Check() != api.OK || code != api.OK || !same(p, q) {
					t.Errorf("P6.2: %s with %d: code %d, %+v", r.name, n, code, q)
				}
			default:
				mayNot(t, p, api.ErrArg)
			}
		}
		p := r.unit(0)
		p.List = []seq.Num{}
		if want := map[bool]api.Errno{true: api.ErrArg, false: api.OK}[r.has("l")]; p.Check() != want {
			t.Errorf("P6.1: %s with a list of none: code %d", r.name, p.Check())
		}
	}
}

// P6.1, P6.2: numbers at their bounds, where they are named; any but 0 may not be where they aren't.
func TestNumbers(t *testing.T) {
	for _, r := range table() {
		for name, at := range map[string]func(p *PDU) *seq.Num{
			"n":  func(p *PDU) *seq.Num { return &p.N },
			"ps": func(p *PDU) *seq.Num { return &p.PS },
			"mr": func(p *PDU) *seq.Num { return &p.MR },
			"l":  func(p *PDU) *seq.Num { return &p.List[1] },
		} {
			named := r.has(name) || name == "n" && r.n || name == "l" && r.has("l*")
			for _, x := range []seq.Num{0, 1, 1 << 23, greatest - 1, greatest, greatest + 1, greatest + 2, 1 << 31, math.MaxUint32} {
				p := r.unit(3)
				if name == "l" && !named {
					p.List = run(2)
				}
				*at(&p) = x
				switch {
				case named && x <= greatest, !named && x == 0 && name != "l":
					if q, code := Parse(p.Bytes()); p.Check() != api.OK || code != api.OK || !same(p, q) {
						t.Errorf("P6.2: %s, %s %d: code %d, %+v", r.name, name, x, code, q)
					}
				default:
					mayNot(t, p, api.ErrArg)
				}
			}
		}
	}
	p := table()[STAT-1].unit(0)
	for i := range 128 {
		p.List = run(128)
		p.List[i] = greatest + 1
		mayNot(t, p, api.ErrArg)
	}
}

// P6.1, P6.2: SQ at its bounds, and Self, where they are named, and where they aren't.
func TestSQAndSelf(t *testing.T) {
	for _, r := range table() {
		for _, sq := range []int{math.MinInt, -256, -1, 0, 1, 127, 128, 254, 255, 256, 257, 1 << 24, 1 << 32, math.MaxInt} {
			p := r.unit(3)
			p.SQ = sq
			if sq == 0 || r.has("sq") && 0 < sq && sq < 256 {
				if q, code := Parse(p.Bytes()); p.Check() != api.OK || code != api.OK || !same(p, q) {
					t.Errorf("P6.2: %s, SQ %d: code %d, %+v", r.name, sq, code, q)
				}
				continue
			}
			mayNot(t, p, api.ErrArg)
		}
		p := r.unit(3)
		p.Self = true
		if !r.self {
			mayNot(t, p, api.ErrArg)
		}
	}
}

// P6.1: of several faults of a unit the first one is told.
func TestFirstFaultOfUnit(t *testing.T) {
	for _, r := range table() {
		p := r.unit(0)
		p.SQ, p.Data = -1, strings.Repeat("a", 201)
		mayNot(t, p, map[bool]api.Errno{true: api.ErrBig, false: api.ErrArg}[r.data > 0])
		p.Data, p.List = "", append(run(130), greatest+1)
		mayNot(t, p, api.ErrBig)
		p.List = run(127)
		mayNot(t, p, api.ErrArg)
	}
}

// P6.1: no multiple of four bytes, or empty, whatever they say.
func TestParseLength(t *testing.T) {
	wrong(t, "", api.ErrLength, "empty")
	for _, r := range table() {
		s := r.unit(5).Bytes()
		for i := 1; i < len(s); i++ {
			if i%4 != 0 {
				wrong(t, s[i:], api.ErrLength, "cut ahead")
				wrong(t, s[:i], api.ErrLength, "cut behind")
			}
		}
	}
	for n := range 30 {
		if n%4 != 0 {
			wrong(t, strings.Repeat("\x00", n), api.ErrLength, "no kind either")
		}
	}
}

// P6.1: there is no kind 0, whatever else is wrong.
func TestParseKind(t *testing.T) {
	for n := 4; n < 600; n += 4 {
		for _, lead := range []byte{0, 0x10, 0x20, 0x40, 0xc0, 0xf0} {
			wrong(t, strings.Repeat("\xff", n-4)+string([]byte{lead, 1, 2, 3}), api.ErrKind, "no kind")
		}
	}
}

// fewest answers how few words stand ahead of the last one.
func (r row) fewest() int {
	return len(strings.Fields(strings.ReplaceAll(r.words, "l*", "")))
}

// P6.1: words are wanting, of each kind, whatever else is wrong.
func TestParseWordsWanting(t *testing.T) {
	for _, r := range table() {
		for words := range r.fewest() {
			for _, lead := range []byte{0, 0x10, 0x20, 0x30} {
				for _, b := range []string{"\x00", "\xff"} {
					s := strings.Repeat(b, 4*words) + string([]byte{lead | byte(r.kind), 0, 0, 1})
					wrong(t, s, api.ErrLength, r.name+" with words wanting")
				}
			}
		}
		s := strings.Repeat("\x00", 4*r.fewest()) + string([]byte{byte(r.kind), 0, 0, 0})
		if p, code := Parse(s); p.Kind != r.kind || code != api.OK {
			t.Errorf("P6.1: %s with no word wanting: code %d", r.name, code)
		}
	}
}

// P6.1: more bytes 0 are told than there are ahead of the words, whatever else is wrong; a List is words, too.
func TestParseZerosWanting(t *testing.T) {
	for _, r := range table() {
		for zeros := byte(1); zeros < 4; zeros++ {
			for _, bits := range []byte{0, 0x10, 0x20, 0x30} {
				s := r.unit(0).Bytes()
				last := len(s) - 4
				lead := string([]byte{zeros<<6 | bits | byte(r.kind)})
				wrong(t, s[:last]+lead+s[last+1:], api.ErrLength, r.name+" with bytes 0 wanting")
				if !r.has("l*") {
					s, code := "\x00\x00\x00\x00"+s[:last]+lead+s[last+1:], api.ErrForm
					if r.data > 0 && (bits == 0 || bits == 0x20 && r.self) {
						code = api.OK
					}
					if p, got := Parse(s); got != code || len(p.Data) > 0 && len(p.Data) != int(4-zeros) {
						t.Errorf("P6.1: %s with %d of four bytes 0: code %d, %+v", r.name, zeros, got, p)
					}
				}
			}
		}
	}
	stat := PDU{Kind: STAT, List: run(130)}
	long := ""
	for _, x := range stat.List {
		long += word(uint32(x))
	}
	long += word(1) + word(2)
	wrong(t, long+word(0x4b000000), api.ErrLength, "a List that is too long, and bytes 0 wanting")
	wrong(t, long+word(0x0b000000), api.ErrBig, "a List that is too long")
}

// P6.1: more data than a kind may have, or a longer List, whatever else is wrong.
func TestParseBig(t *testing.T) {
	for _, r := range table() {
		p := r.unit(0)
		words, last := p.Bytes(), len(p.Bytes())-4
		for n := range 300 {
			zeros := (4 - n%4) % 4
			for _, fill := range []string{"\x00", "\x01"} {
				data := strings.Repeat("a", n) + strings.Repeat(fill, zeros)
				lead := string([]byte{byte(zeros)<<6 | 0x10 | words[last]})
				s, want := data+words[:last]+lead+words[last+1:], api.ErrForm
				if r.data > 0 && n > r.data {
					want = api.ErrBig
				}
				if r.has("l*") && zeros > 0 {
					want = api.ErrLength
				} else if r.has("l*") && len(data)/4+2 > 128 {
					want = api.ErrBig
				}
				wrong(t, s, want, r.name+" with data")
			}
		}
	}
	for n := range 140 {
		s := strings.Repeat(word(9), n) + word(1) + word(2) + word(0x0b000003)
		p, code := Parse(s)
		switch {
		case n > 128:
			wrong(t, s, api.ErrBig, "a long List")
		case n%2 == 1:
			wrong(t, s, api.ErrForm, "an odd List")
		case code != api.OK || len(p.List) != n || p.PS != 1 || p.MR != 2 || p.N != 3:
			t.Errorf("P6.1: a List of %d: code %d, %+v", n, code, p)
		}
	}
}

// P6.1: each fault of ErrForm on its own.
func TestParseForm(t *testing.T) {
	for _, r := range table() {
		p := r.unit(2)
		s := p.Bytes()
		last := len(s) - 4
		lead := func(b byte) string { return s[:last] + string([]byte{b}) + s[last+1:] }
		wrong(t, lead(s[last]|0x10), api.ErrForm, r.name+", the bit 0")
		if !r.self {
			wrong(t, lead(s[last]|0x20), api.ErrForm, r.name+", Self")
		}
		if !r.n {
			for _, n := range []uint32{1, 0x100, 0x10000, 0x800000, 0xffffff} {
				wrong(t, s[:last]+word(uint32(s[last])<<24|n), api.ErrForm, r.name+", N")
			}
		}
		if r.data > 0 {
			for n := 1; n < 10; n++ {
				s := r.unit(n).Bytes()
				for i := n; i%4 > 0; i++ {
					for _, b := range []string{"\x01", "\x80", "\xff"} {
						wrong(t, s[:i]+b+s[i+1:], api.ErrForm, r.name+", a byte 0")
					}
				}
			}
		}
		if r.data == 0 && !r.has("l*") {
			for n := 4; n < 400; n += 4 {
				wrong(t, strings.Repeat("\x00", n)+s, api.ErrForm, r.name+", data")
				wrong(t, strings.Repeat("a", n)+s, api.ErrForm, r.name+", data")
			}
			wrong(t, "a\x00\x00\x00"+lead(s[last]|0xc0), api.ErrForm, r.name+", data, and bytes 0 told")
		}
		for at := (len(p.Data) + 3) / 4 * 4; at < last; at += 4 {
			high := []byte{1, 128, 255}
			for _, b := range high {
				wrong(t, s[:at]+string([]byte{b})+s[at+1:], api.ErrForm, r.name+", more bits")
			}
			if r.has("sq") {
				wrong(t, s[:at]+word(256)+s[at+4:], api.ErrForm, r.name+", an SQ")
				wrong(t, s[:at]+word(1<<16)+s[at+4:], api.ErrForm, r.name+", an SQ")
				wrong(t, s[:at]+word(math.MaxUint32)+s[at+4:], api.ErrForm, r.name+", an SQ")
			}
		}
	}
	wrong(t, word(3)+word(1)+word(2)+word(0x0b000003), api.ErrForm, "an odd List")
	wrong(t, word(3)+word(4)+word(5)+word(1)+word(2)+word(0x0b000003), api.ErrForm, "an odd List")
	wrong(t, word(3)+word(4)+word(5)+word(2)+word(0x0c000003), api.ErrForm, "a USTAT's List of three")
	wrong(t, word(3)+word(4)+word(5)+word(6)+word(2)+word(0x0c000003), api.ErrForm, "a USTAT's List of four")
}

// fault is the first thing that is wrong with bytes, as the chapter's words say it.
func fault(s string) api.Errno {
	if len(s)%4 != 0 || s == "" {
		return api.ErrLength
	}
	at := len(s) - 4
	kind, zeros := s[at]&15, int(s[at]>>6)
	if kind == 0 {
		return api.ErrKind
	}
	r := table()[kind-1]
	data, list := at-4*r.fewest(), 0
	if r.has("l*") {
		data, list = min(data, 0), data/4
	}
	data -= zeros
	if data < 0 {
		return api.ErrLength
	}
	if r.data > 0 && data > r.data || list > 128 {
		return api.ErrBig
	}
	bad := s[at]&16 != 0 || s[at]&32 != 0 && !r.self || data > r.data || list%2 == 1 || !r.n && s[at+1:] != "\x00\x00\x00"
	bad = bad || s[data:data+zeros] != strings.Repeat("\x00", zeros)
	for w := data + zeros; w < at; w += 4 {
		bad = bad || s[w] != 0 || r.has("sq") && s[w:w+3] != "\x00\x00\x00"
	}
	if bad {
		return api.ErrForm
	}
	return api.OK
}

// hold holds what is read of bytes against what is wrong with them, and, of a unit, against its bytes.
func hold(t *testing.T, s string) {
	t.Helper()
	want := fault(s)
	if want != api.OK {
		wrong(t, s, want, "any bytes")
		return
	}
	p, code := Parse(s)
	if code != api.OK || p.Check() != api.OK || p.Bytes() != s {
		t.Errorf("P6.2: %x: code %d, %+v, of %x", s, code, p, p.Bytes())
	}
}

// P6.1, P6.2: of any bytes there is at most one unit, and the first fault is told.
func TestAnyBytes(t *testing.T) {
	seed := uint32(1)
	next := func() uint32 {
		seed = seed*1664525 + 1013904223
		return seed >> 8
	}
	for _, r := range table() {
		for n := range 9 {
			s := r.unit(n).Bytes()
			for i := range len(s) {
				for b := range 256 {
					hold(t, s[:i]+string([]byte{byte(b)})+s[i+1:])
				}
			}
			for i := range len(s) + 1 {
				hold(t, s[i:])
				hold(t, s[:i])
				hold(t, s[:i]+"\x00\x00\x00\x00"+s[i:])
			}
		}
	}
	for range 100000 {
		b := make([]byte, 4*(next()%8))
		for i := range b {
			// Mostly bytes 0, as otherwise hardly any of these were a unit.
			if next()%4 == 0 || i == len(b)-4 {
				b[i] = byte(next())
			}
		}
		hold(t, string(b))
	}
}

// P6.2: units that are unlike have unlike bytes.
func TestUnlikeBytes(t *testing.T) {
	seen := map[string]PDU{}
	for _, r := range table() {
		for n := range 12 {
			for _, x := range []seq.Num{0, 1, 5, greatest} {
				p := r.unit(n)
				if r.n {
					p.N = x
				}
				if r.has("ps") {
					p.PS = x
				}
				q, is := seen[p.Bytes()]
				if is && !same(p, q) {
					t.Errorf("P6.2: %+v and %+v: %x", p, q, p.Bytes())
				}
				seen[p.Bytes()] = p
			}
		}
	}
}

// Rule 5: no List that is handed in is changed, its spare room neither, and what is answered is new.
func TestMemory(t *testing.T) {
	all := []seq.Num{1, 2, 3, 4, 99, 98}
	p := PDU{Kind: STAT, List: all[:4]}
	p.Check()
	s := p.Bytes()
	if !slices.Equal(all, []seq.Num{1, 2, 3, 4, 99, 98}) {
		t.Errorf("rule 5: %v", all)
	}
	q, _ := Parse(s)
	q.List[0] = 55
	if r, _ := Parse(s); !same(r, p) {
		t.Errorf("rule 5: %+v", r)
	}
}

// P1: each call ends, of units that may not be as well, and of long texts.
func TestCallsEnd(t *testing.T) {
	for kind := -3; kind < 20; kind++ {
		for _, sq := range []int{math.MinInt, -1, 0, 300, math.MaxInt} {
			for _, x := range []seq.Num{0, greatest, math.MaxUint32} {
				for _, n := range []int{0, 1, 2, 70000} {
					p := PDU{kind, sq, x, x, x, run(n), n%2 == 1, strings.Repeat("\xff", n)}
					if code := p.Check(); (p.Bytes() == "") != (code != api.OK) {
						t.Fatalf("P1: kind %d: code %d", kind, code)
					}
					p.Name()
				}
			}
		}
	}
	for b := range 256 {
		s := strings.Repeat("\xff", 1<<16) + string([]byte{byte(b), 0, 0, 0})
		wrong(t, s, fault(s), "a long text")
	}
}
