package trace

import (
	"encoding/hex"
	"fmt"
	"math"
	"regexp"
	"slices"
	"strconv"
	"strings"
	"testing"

	"polliwog/api"
	"polliwog/pdu"
	"polliwog/seq"
)

const greatest = 1<<24 - 1

// rows has of each kind its name, and the words of its text, as the chapters' words say them.
func rows() map[int]string {
	return map[int]string{
		pdu.BGN: "bgn sq n d", pdu.BGAK: "bgak sq n", pdu.END: "end sq self d", pdu.ENDAK: "endak sq", pdu.RS: "rs sq n d",
		pdu.RSAK: "rsak sq n", pdu.BGREJ: "bgrej sq d", pdu.SD: "sd n d", pdu.ER: "er sq n", pdu.POLL: "poll n ps",
		pdu.STAT: "stat n ps mr l", pdu.USTAT: "ustat n mr l", pdu.UD: "ud d", pdu.MD: "md d", pdu.ERAK: "erak sq n",
	}
}

// bytesOf answers how many bytes of data a kind may have at most.
func bytesOf(kind int) int {
	switch kind {
	case pdu.SD, pdu.UD, pdu.MD:
		return 200
	}
	return 64
}

// plain is a unit's text, put together word by word.
func plain(p pdu.PDU) string {
	words := strings.Fields(rows()[p.Kind])
	text := words[0]
	for _, word := range words[1:] {
		switch word {
		case "sq":
			text += fmt.Sprintf(" sq%d", p.SQ)
		case "n":
			text += fmt.Sprintf(" n%d", p.N)
		case "ps":
			text += fmt.Sprintf(" ps%d", p.PS)
		case "mr":
			text += fmt.Sprintf(" mr%d", p.MR)
		case "l":
			text += " l" + strings.Trim(strings.ReplaceAll(fmt.Sprint(p.List), " ", ","), "[]")
		case "self":
			if p.Self {
				text += " self"
			}
		case "d":
			text += " d" + hex.EncodeToString([]byte(p.Data))
		}
		if strings.HasSuffix(text, " l") || strings.HasSuffix(text, " d") {
			text += "-"
		}
	}
	return text
}

// same asks whether two units are alike.
func same(p, q pdu.PDU) bool {
	return p.Kind == q.Kind && p.SQ == q.SQ && p.N == q.N && p.PS == q.PS && p.MR == q.MR &&
		slices.Equal(p.List, q.List) && p.Self == q.Self && p.Data == q.Data
}

// both asks for a unit's text, and back.
func both(t *testing.T, p pdu.PDU, want string) {
	t.Helper()
	if got := Unit(p); got != want {
		t.Errorf("P19.1: Unit of %+v: %q, not %q", p, got, want)
	}
	if q, is := Parse(want); !is || !same(p, q) {
		t.Errorf("P19.2: Parse of %q: %t, %+v, not %+v", want, is, q, p)
	}
}

// wrong asks that a text be no unit's.
func wrong(t *testing.T, s string) {
	t.Helper()
	if p, is := Parse(s); is || !same(p, pdu.PDU{}) || p.List != nil {
		t.Errorf("P19.1: Parse of %q: %t, %+v", s, is, p)
	}
}

// P19.1, P19.2: each kind there and back, with texts that are written out, the document's examples among them.
func TestKinds(t *testing.T) {
	l := func(n ...seq.Num) []seq.Num { return n }
	for _, c := range []struct {
		p    pdu.PDU
		want string
	}{
		{pdu.PDU{Kind: 11, N: 3, PS: 9, MR: 40, List: l(3, 5)}, "stat n3 ps9 mr40 l3,5"},
		{pdu.PDU{Kind: 8, N: 5, Data: "ab"}, "sd n5 d6162"},
		{pdu.PDU{Kind: 1, SQ: 1, N: 4}, "bgn sq1 n4 d-"},
		{pdu.PDU{Kind: 1, SQ: 255, N: greatest, Data: "\x00"}, "bgn sq255 n16777215 d00"},
		{pdu.PDU{Kind: 1}, "bgn sq0 n0 d-"},
		{pdu.PDU{Kind: 2, SQ: 1, N: 8}, "bgak sq1 n8"},
		{pdu.PDU{Kind: 3, SQ: 1, Self: true}, "end sq1 self d-"},
		{pdu.PDU{Kind: 3, SQ: 10, Self: true, Data: "self"}, "end sq10 self d73656c66"},
		{pdu.PDU{Kind: 3, SQ: 1}, "end sq1 d-"},
		{pdu.PDU{Kind: 3, Data: "\xff"}, "end sq0 dff"},
		{pdu.PDU{Kind: 4, SQ: 17}, "endak sq17"},
		{pdu.PDU{Kind: 5, SQ: 2, N: 4, Data: "\xde"}, "rs sq2 n4 dde"},
		{pdu.PDU{Kind: 6, SQ: 2, N: 4}, "rsak sq2 n4"},
		{pdu.PDU{Kind: 7, SQ: 1, Data: "n"}, "bgrej sq1 d6e"},
		{pdu.PDU{Kind: 7}, "bgrej sq0 d-"},
		{pdu.PDU{Kind: 8}, "sd n0 d-"},
		{pdu.PDU{Kind: 9, SQ: 3, N: 16}, "er sq3 n16"},
		{pdu.PDU{Kind: 10, PS: 1}, "poll n0 ps1"},
		{pdu.PDU{Kind: 10, N: greatest, PS: greatest}, "poll n16777215 ps16777215"},
		{pdu.PDU{Kind: 11, PS: 1, MR: 1}, "stat n0 ps1 mr1 l-"},
		{pdu.PDU{Kind: 11, N: greatest, List: l(greatest, 0, 1, 2)}, "stat n16777215 ps0 mr0 l16777215,0,1,2"},
		{pdu.PDU{Kind: 12, MR: 4, List: l(0, 1)}, "ustat n0 mr4 l0,1"},
		{pdu.PDU{Kind: 12, N: 7, MR: greatest, List: l(9, 7)}, "ustat n7 mr16777215 l9,7"},
		{pdu.PDU{Kind: 13, Data: "u"}, "ud d75"},
		{pdu.PDU{Kind: 13}, "ud d-"},
		{pdu.PDU{Kind: 14, Data: "m"}, "md d6d"},
		{pdu.PDU{Kind: 14, Data: "-"}, "md d2d"},
		{pdu.PDU{Kind: 15, SQ: 5, N: 6}, "erak sq5 n6"},
	} {
		both(t, c.p, c.want)
	}
}

// P19.1, P19.2: data of each length that may be; of one more there is no text.
func TestData(t *testing.T) {
	for kind, row := range rows() {
		for n := range 260 {
			p := pdu.PDU{Kind: kind, Data: strings.Repeat("\x0f\xf0a", n)[:n]}
			if kind == pdu.USTAT {
				p.List = []seq.Num{0, 0}
			}
			switch {
			case n == 0, strings.HasSuffix(row, " d") && n <= bytesOf(kind):
				both(t, p, plain(p))
			default:
				mayNot(t, p)
			}
		}
	}
}

// P19.1, P19.2: a List of so many; a STAT alone may have one of any length, up to 128.
func TestLists(t *testing.T) {
	for kind := range rows() {
		for n := range 140 {
			p := pdu.PDU{Kind: kind}
			for i := range n {
				p.List = append(p.List, seq.Num(i*130051)&greatest)
			}
			switch {
			case kind == pdu.USTAT && n == 2, kind == pdu.STAT && n%2 == 0 && n <= 128, kind != pdu.USTAT && n == 0:
				both(t, p, plain(p))
			default:
				mayNot(t, p)
			}
		}
	}
	both(t, pdu.PDU{Kind: pdu.STAT, List: []seq.Num{}}, "stat n0 ps0 mr0 l-")
}

// mayNot asks that a unit that may not be has no text.
func mayNot(t *testing.T, p pdu.PDU) {
	t.Helper()
	if got := Unit(p); got != "" {
		t.Errorf("P19.1: Unit of %+v: %q", p, got)
	}
}

// P19.1: each part of each kind at its bounds and beyond, also those that its kind hasn't: layer 6 says which units may be.
func TestBounds(t *testing.T) {
	may, not := 0, 0
	look := func(p pdu.PDU) {
		if p.Check() != api.OK {
			mayNot(t, p)
			not++
			return
		}
		both(t, p, plain(p))
		may++
	}
	for kind := range rows() {
		for _, sq := range []int{math.MinInt, -1, 0, 1, 255, 256, 1 << 32, math.MaxInt} {
			p := unit(kind)
			p.SQ = sq
			look(p)
		}
		for _, n := range []seq.Num{0, 1, 1 << 23, greatest, greatest + 1, math.MaxUint32} {
			p, q, r := unit(kind), unit(kind), unit(kind)
			p.N, q.PS, r.MR = n, n, n
			look(p)
			look(q)
			look(r)
			for _, l := range [][]seq.Num{{n}, {0, n}, {n, 0}, {1, 2, 3, n}} {
				p := unit(kind)
				p.List = l
				look(p)
			}
		}
		p := unit(kind)
		p.Self = true
		look(p)
	}
	for _, kind := range []int{0, -1, 16, 17, 255, 256 + 8, 1<<32 + 8, math.MinInt, math.MaxInt} {
		look(pdu.PDU{Kind: kind})
		look(pdu.PDU{Kind: kind, SQ: 1, N: 4, Data: "a"})
	}
	if may < 100 || not < 200 {
		t.Errorf("P19.1: %d units may be, %d may not, alone", may, not)
	}
}

// unit answers a unit of a kind, which has all that it may have, but for Self.
func unit(kind int) pdu.PDU {
	p := pdu.PDU{Kind: kind}
	for _, word := range strings.Fields(rows()[kind])[1:] {
		switch word {
		case "sq":
			p.SQ = 200
		case "n":
			p.N = 1234567
		case "ps":
			p.PS = 20
		case "mr":
			p.MR = 300
		case "l":
			p.List = []seq.Num{40, 50}
		case "d":
			p.Data = "dash-"
		}
	}
	return p
}

// P19.1: texts that are none's, written out.
func TestWrongTexts(t *testing.T) {
	for _, s := range []string{
		"", " ", "-", "0", "d-", "n5", "sq1", "sd", "sd ", "sd n5", "sd n5 ", "sd n5 d", "sd d6162", "sd n5 d6162 ", " sd n5 d6162",
		"sd  n5 d6162", "sd n5  d6162", "sd n5 d6162\n", "sd\tn5 d6162", "sd n5\x00d6162", "sd n5 d6162\x00", "sd,n5,d6162",
		"SD n5 d6162", "Sd n5 d6162", "sd N5 d6162", "sd n5 D6162", "sdn5 d6162", "s n5 d6162", "sdd n5 d6162", "xx n5 d6162", "data n5 d6162",
		"sd d6162 n5", "sd n5 n5 d6162", "sd n5 d61 d62", "sd n5 d6162 self", "sd self n5 d6162", "sd sq0 n5 d6162", "sd n5 l- d6162",
		"sd n d6162", "sd n- d6162", "sd n05 d6162", "sd n00 d6162", "sd n+5 d6162", "sd n-5 d6162", "sd n-0 d6162", "sd n 5 d6162", "sd n5, d6162",
		"sd n0x5 d6162", "sd n5.0 d6162", "sd n1_0 d6162", "sd n5e0 d6162", "sd na d6162", "sd n٥ d6162", "sd n5\xff d6162",
		"sd n16777216 d6162", "sd n16777221 d6162", "sd n4294967301 d6162", "sd n18446744073709551621 d6162", "sd n99999999999999999999999 d6162",
		"sd n5 d616", "sd n5 d6G", "sd n5 d6A", "sd n5 d--", "sd n5 d-61", "sd n5 d61-", "sd n5 d61,62", "sd n5 6162", "sd n5 d0x61",
		"bgn", "bgn sq1", "bgn sq1 n4", "bgn n4 sq1 d-", "bgn sq256 n4 d-", "bgn sq-1 n4 d-", "bgn sq01 n4 d-", "bgn s1 n4 d-", "bgn q1 n4 d-", "bgn sq1 n4 d- ",
		"bgn sq1 n4 d- self", "bgn sq1 n4 self d-", "bgn sq1 d-", "bgak sq1 n4 d-", "bgak sq1", "bgak n4", "bgrej sq1 n0 d6e", "bgrej sq1",
		"end sq1", "end sq1 self", "end self sq1 d-", "end sq1 d- self", "end sq1 Self d-", "end sq1 self self d-", "end sq1 self0 d-", "end sq1 self- d-", "end sq1 user d-",
		"end sq1 selfd-", "end sq1 n0 d-", "end sq1 n0 self d-", "endak sq1 d-", "endak sq1 n0", "endak", "er sq1", "er sq1 n4 d-",
		"poll n0", "poll ps1", "poll ps1 n0", "poll n0 p1", "poll n0 ps1 mr1", "poll n0 ps01", "poll n0 ps16777216", "poll n0 ps4294967296",
		"stat n0 ps1 mr1", "stat n0 ps1 mr1 l", "stat n0 ps1 mr1 l ", "stat n0 ps1 mr1 l--", "stat n0 ps1 mr1 l-,-", "stat n0 ps1 mr1 l3", "stat n0 ps1 mr1 l3,", "stat n0 ps1 mr1 l,3",
		"stat n0 ps1 mr1 l3,5,", "stat n0 ps1 mr1 l,3,5", "stat n0 ps1 mr1 l3,,5", "stat n0 ps1 mr1 l3 5", "stat n0 ps1 mr1 l3, 5", "stat n0 ps1 mr1 l3;5", "stat n0 ps1 mr1 l3,5,7",
		"stat n0 ps1 mr1 l3,05", "stat n0 ps1 mr1 l03,5", "stat n0 ps1 mr1 l3,+5", "stat n0 ps1 mr1 l3,-5", "stat n0 ps1 mr1 l3,16777216", "stat n0 ps1 mr1 l[3,5]", "stat n0 ps1 mr1 l3,5 ",
		"stat n0 mr1 ps1 l-", "stat n0 mr1 l3,5", "stat ps1 mr1 n0 l-", "stat n0 ps1 mr16777216 l-", "stat n0 ps1 m1 l-", "stat n0 ps1 mr1 l- d-", "stat l- n0 ps1 mr1",
		"ustat n0 mr4 l-", "ustat n0 mr4 l0", "ustat n0 mr4 l0,1,2,3", "ustat n0 ps1 mr4 l0,1", "ustat n0 mr4", "ustat n0 l0,1", "ustat mr4 n0 l0,1",
		"ud", "ud ", "ud d", "ud n0 d75", "ud d75 d75", "ud sq0 d75", "md d", "md 6d", "md d6d d", "erak sq1 n", "erak sq n1",
		"ud d" + strings.Repeat("00", 201), "bgn sq1 n4 d" + strings.Repeat("00", 65), "end sq1 self d" + strings.Repeat("00", 65),
		"stat n0 ps1 mr1 l" + strings.Repeat("1,", 129) + "1", "stat n0 ps1 mr1 l" + strings.Repeat("1,", 128) + "1", "stat n0 ps1 mr1 l" + strings.Repeat(",", 127),
	} {
		wrong(t, s)
		if said(t, s) {
			t.Errorf("%q is a unit's text", s)
		}
	}
}

// grammar has of each kind how its text looks.
var grammar = func() map[int]*regexp.Regexp {
	l := map[int]*regexp.Regexp{}
	for kind, row := range rows() {
		words := strings.Fields(row)
		look := words[0]
		for _, word := range words[1:] {
			switch word {
			case "self":
				look += "(?: self)?"
			case "d":
				look += " d(?P<d>-|(?:[0-9a-f]{2})+)"
			case "l":
				look += " l(?P<l>-|(?:0|[1-9][0-9]*)(?:,(?:0|[1-9][0-9]*))*)"
			default:
				look += " " + word + "(?P<" + word + ">0|[1-9][0-9]*)"
			}
		}
		l[kind] = regexp.MustCompile(`\A` + look + `\z`)
	}
	return l
}()

// said asks whether a text is a unit's, by the chapters' words.
func said(t *testing.T, s string) bool {
	t.Helper()
	fits := 0
	for kind, look := range grammar {
		m := look.FindStringSubmatch(s)
		if m == nil {
			continue
		}
		may := true
		for i, word := range look.SubexpNames() {
			may = may && fitsWord(kind, word, m[i])
		}
		if may {
			fits++
		}
	}
	if fits > 1 {
		t.Errorf("P19.2: %q is the text of several", s)
	}
	return fits > 0
}

// fitsWord asks whether a word's value is within its bounds.
func fitsWord(kind int, word, value string) bool {
	below := func(s string, most uint64) bool {
		n, err := strconv.ParseUint(s, 10, 64)
		return err == nil && n <= most
	}
	switch word {
	case "sq":
		return below(value, 255)
	case "n", "ps", "mr":
		return below(value, greatest)
	case "l":
		if value == "-" {
			return kind == pdu.STAT
		}
		l := strings.Split(value, ",")
		return !slices.ContainsFunc(l, func(s string) bool { return !below(s, greatest) }) &&
			len(l)%2 == 0 && len(l) <= 128 && (kind == pdu.STAT || len(l) == 2)
	case "d":
		return len(value) <= 2*bytesOf(kind)
	}
	return true
}

// hold holds Parse against the chapters' words.
func hold(t *testing.T, s string) bool {
	t.Helper()
	if !said(t, s) {
		wrong(t, s)
		return false
	}
	p, is := Parse(s)
	if !is || Unit(p) != s || plain(p) != s {
		t.Errorf("P19.2: Parse of %q: %t, %+v, whose text is %q", s, is, p, Unit(p))
	}
	return true
}

// P19.1, P19.2: of each text near a unit's: one byte changed, added, or wanting, or two words in another order.
func TestNearTexts(t *testing.T) {
	may, mayNot := 0, 0
	near := func(s string) {
		if hold(t, s) {
			may++
		} else {
			mayNot++
		}
	}
	for kind := range rows() {
		p := unit(kind)
		q := pdu.PDU{Kind: kind, List: slices.Clone(p.List)}
		if kind == pdu.END {
			q.Self = true
		}
		for _, s := range []string{plain(p), plain(q)} {
			for i := range len(s) + 1 {
				near(s[:i])
				near(s[i:])
				for b := range 256 {
					near(s[:i] + string([]byte{byte(b)}) + s[i:])
					if i < len(s) {
						near(s[:i] + string([]byte{byte(b)}) + s[i+1:])
					}
				}
				if i < len(s) {
					near(s[:i] + s[i+1:])
				}
			}
			words := strings.Fields(s)
			for i := range words {
				for k := range words {
					l := slices.Clone(words)
					l[i], l[k] = l[k], l[i]
					near(strings.Join(l, " "))
					near(strings.Join(slices.Insert(slices.Clone(words), i, words[k]), " "))
				}
			}
		}
	}
	if may < 3000 || mayNot < 100000 {
		t.Errorf("P19.1: %d texts of units, %d of none alone", may, mayNot)
	}
}

// dice throws numbers that are alike each time.
type dice uint64

// below throws a number from 0 on, below n.
func (d *dice) below(n int) int {
	*d = *d*6364136223846793005 + 1442695040888963407
	return int(uint64(*d)>>33) % n
}

// number throws a number, often at an edge.
func (d *dice) number() seq.Num {
	return []seq.Num{0, 1, 9, 10, 99, 100, 1 << 23, greatest - 1, greatest, seq.Num(d.below(greatest + 1))}[d.below(10)]
}

// data throws at most so many bytes.
func (d *dice) data(most int) string {
	b := make([]byte, []int{0, 1, d.below(most + 1), most}[d.below(4)])
	for i := range b {
		b[i] = byte(d.below(256))
	}
	return string(b)
}

// unit throws a unit that may be.
func (d *dice) unit() pdu.PDU {
	p := pdu.PDU{Kind: 1 + d.below(15)}
	for _, word := range strings.Fields(rows()[p.Kind])[1:] {
		switch word {
		case "sq":
			p.SQ = []int{0, 1, 255, d.below(256)}[d.below(4)]
		case "n":
			p.N = d.number()
		case "ps":
			p.PS = d.number()
		case "mr":
			p.MR = d.number()
		case "self":
			p.Self = d.below(2) == 0
		case "d":
			p.Data = d.data(bytesOf(p.Kind))
		case "l":
			n := 2
			if p.Kind == pdu.STAT {
				n = 2 * []int{0, 1, d.below(65), 64}[d.below(4)]
			}
			for range n {
				p.List = append(p.List, d.number())
			}
		}
	}
	return p
}

// P19.2: units there and back; those that are unlike have unlike texts.
func TestThereAndBack(t *testing.T) {
	d := dice(19)
	seen := map[string]pdu.PDU{}
	for range 60000 {
		p := d.unit()
		s := Unit(p)
		both(t, p, plain(p))
		if q, is := seen[s]; is && !same(p, q) {
			t.Errorf("P19.2: %q is the text of %+v, and of %+v", s, p, q)
		}
		seen[s] = p
	}
	if len(seen) < 30000 {
		t.Errorf("P19.2: %d units alone", len(seen))
	}
}

// P19.1, P19.2: any texts, made of pieces of units' texts, and of none.
func TestAnyTexts(t *testing.T) {
	d := dice(191)
	pieces := []string{" ", " ", " ", " ", "sq", "n", "ps", "mr", "l", "self", "d", "-", ",", "0", "1", "255", "256", "16777215", "16777216", "61", "ff", "\n", "é", "\xff", "\x00"}
	for _, row := range rows() {
		pieces = append(pieces, strings.Fields(row)[0])
	}
	may := 0
	for range 60000 {
		s := ""
		if d.below(2) == 0 {
			words := strings.Fields(rows()[1+d.below(15)])
			for i, word := range words {
				if i > 0 {
					word = " " + word + pieces[11+d.below(10)]
				}
				s += strings.TrimSuffix(word, []string{"", "-", " "}[d.below(3)])
			}
		}
		for range d.below(9) {
			at := d.below(len(s) + 1)
			s = s[:at] + pieces[d.below(len(pieces))] + s[at+d.below(len(s)-at+1):]
		}
		if hold(t, s) {
			may++
		}
	}
	if may < 300 {
		t.Errorf("P19.1: %d texts of units alone", may)
	}
}

// Rule 5: what Parse answers is new memory; what is handed to Unit isn't changed.
func TestNewMemory(t *testing.T) {
	const text = "stat n3 ps9 mr40 l3,5"
	p, _ := Parse(text)
	q, _ := Parse(text)
	p.List[0], p.List[1] = 8, 9
	if Unit(q) != text || Unit(p) != "stat n3 ps9 mr40 l8,9" {
		t.Errorf("rule 5: %q, %q", Unit(q), Unit(p))
	}
	room := []seq.Num{1, 2, 7, 7}
	if got := Unit(pdu.PDU{Kind: pdu.USTAT, List: room[:2]}); got != "ustat n0 mr0 l1,2" || !slices.Equal(room, []seq.Num{1, 2, 7, 7}) {
		t.Errorf("rule 5: %q, %v", got, room)
	}
}

// P1: each call ends, of long texts and of any units.
func TestCallsEnd(t *testing.T) {
	for _, piece := range []string{" ", "0", "9", "a", ",", "1,", "-", "self ", "\xff", "n0 ", "d00", "\n"} {
		long := strings.Repeat(piece, 1<<20)
		for _, lead := range []string{"", "sd ", "sd n", "sd n5 d", "ud d", "end sq1 ", "end sq1 self d", "stat n0 ps0 mr0 l", "stat n0 ps0 mr0 l1,2,", "poll n0 ps"} {
			wrong(t, lead+long)
		}
	}
	long := strings.Repeat("\xff", 1<<20)
	for _, n := range []int{math.MinInt, -1, 0, 1, 5, 8, 11, 15, 16, math.MaxInt} {
		p := pdu.PDU{Kind: n, SQ: n, N: seq.Num(n), PS: seq.Num(n), MR: seq.Num(n), List: make([]seq.Num, 1<<20), Self: true, Data: long}
		if got := Unit(p); got != "" {
			t.Errorf("P1: Unit of kind %d: %d bytes", n, len(got))
		}
	}
}
