package event

import (
	"encoding/hex"
	"fmt"
	"math"
	"slices"
	"strings"
	"testing"

	"polliwog/api"
)

// row says what a kind of requests may have, as the chapter's words say it.
type row struct {
	kind, data  int
	least, most int // of N
}

func requests() []row {
	return []row{
		{Establish, 64, 0, 0}, {Accept, 0, 0, 0}, {Release, 64, 0, 0}, {Resync, 64, 0, 0}, {Resynced, 0, 0, 0}, {Recovered, 0, 0, 0},
		{Data, 200, 0, 0}, {Unit, 200, 0, 0}, {Manage, 200, 0, 0}, {Take, 0, 1, 64}, {Retrieve, 0, 0, 0},
	}
}

// numbers has whole numbers at which something may turn.
func numbers() []int {
	return []int{math.MinInt, -1 << 32, -65, -64, -2, -1, 0, 1, 2, 9, 10, 63, 64, 65, 66, 255, 256, 257, 1 << 32, 1<<32 + 1, math.MaxInt}
}

// strange has kinds that there are neither of requests nor of signals.
func strange() []int {
	return []int{0, -1, 13, 14, 255, 256, 257, 256 + Take, 1<<32 + Data, -Data, math.MinInt, math.MinInt + 1, math.MaxInt}
}

// P10.1: the kinds' numbers.
func TestKinds(t *testing.T) {
	for i, kind := range []int{Establish, Accept, Release, Resync, Resynced, Recovered, Data, Unit, Manage, Take, Retrieve} {
		if kind != i+1 {
			t.Errorf("P10.1: the request %d is %d", i+1, kind)
		}
	}
	for i, kind := range []int{
		EstablishInd, EstablishConf, ReleaseInd, ReleaseConf, ResyncInd, ResyncConf, RecoverInd, DataInd, UnitInd, ManageInd, Retrieved, Report,
	} {
		if kind != i+1 {
			t.Errorf("P10.1: the signal %d is %d", i+1, kind)
		}
	}
}

// P10.1: Check of each kind, with data of each length up to its bound and beyond, and with each number.
func TestCheck(t *testing.T) {
	for _, r := range requests() {
		for bytes := range 300 {
			for _, n := range numbers() {
				want := api.OK
				switch {
				case r.data > 0 && bytes > r.data:
					want = api.ErrBig
				case r.data == 0 && bytes > 0, n < r.least, n > r.most:
					want = api.ErrArg
				}
				if got := (Request{r.kind, strings.Repeat("\xff", bytes), n}).Check(); got != want {
					t.Errorf("P10.1: Check of kind %d, %d bytes, N %d: %d, not %d", r.kind, bytes, n, got, want)
				}
			}
		}
	}
}

// P10.1: at the bounds that the chapter names.
func TestCheckBounds(t *testing.T) {
	for _, c := range []struct {
		r    Request
		want api.Errno
	}{
		{Request{Kind: Establish, Data: strings.Repeat("a", 64)}, api.OK},
		{Request{Kind: Establish, Data: strings.Repeat("a", 65)}, api.ErrBig},
		{Request{Kind: Release, Data: strings.Repeat("a", 65)}, api.ErrBig},
		{Request{Kind: Resync, Data: strings.Repeat("a", 65)}, api.ErrBig},
		{Request{Kind: Data, Data: strings.Repeat("a", 200)}, api.OK},
		{Request{Kind: Data}, api.OK},
		{Request{Kind: Data, Data: strings.Repeat("a", 201)}, api.ErrBig},
		{Request{Kind: Data, Data: strings.Repeat("a", 201), N: 1}, api.ErrBig},
		{Request{Kind: Unit, Data: strings.Repeat("a", 201)}, api.ErrBig},
		{Request{Kind: Manage, Data: strings.Repeat("a", 201)}, api.ErrBig},
		{Request{Kind: Data, N: 1}, api.ErrArg},
		{Request{Kind: Accept}, api.OK},
		{Request{Kind: Accept, Data: "a"}, api.ErrArg},
		{Request{Kind: Accept, Data: strings.Repeat("a", 1000)}, api.ErrArg},
		{Request{Kind: Resynced, Data: "a"}, api.ErrArg},
		{Request{Kind: Recovered, Data: "a"}, api.ErrArg},
		{Request{Kind: Retrieve, Data: "a"}, api.ErrArg},
		{Request{Kind: Retrieve, N: 1}, api.ErrArg},
		{Request{Kind: Take}, api.ErrArg},
		{Request{Kind: Take, N: 1}, api.OK},
		{Request{Kind: Take, N: 64}, api.OK},
		{Request{Kind: Take, N: 65}, api.ErrArg},
		{Request{Kind: Take, N: 1, Data: "a"}, api.ErrArg},
		{Request{Kind: Take, N: 1, Data: strings.Repeat("a", 1000)}, api.ErrArg},
		{Request{}, api.ErrKind},
	} {
		if got := c.r.Check(); got != c.want {
			t.Errorf("P10.1: Check of kind %d, %d bytes, N %d: %d, not %d", c.r.Kind, len(c.r.Data), c.r.N, got, c.want)
		}
	}
}

// P10.1: there is no such kind, whatever else is wrong.
func TestStrangeRequests(t *testing.T) {
	for _, kind := range append(strange(), Report) {
		for _, bytes := range []int{0, 1, 65, 201, 1000} {
			for _, n := range numbers() {
				if got := (Request{kind, strings.Repeat("a", bytes), n}).Check(); got != api.ErrKind {
					t.Errorf("P10.1: Check of kind %d, %d bytes, N %d: %d", kind, bytes, n, got)
				}
			}
		}
	}
}

// P10.1: the chapter's example, and a text of each kind; what a kind hasn't doesn't show.
func TestText(t *testing.T) {
	for _, c := range []struct {
		s    Signal
		want string
	}{
		{Signal{Kind: ReleaseInd, Self: true, Data: "a"}, "release self 61"},
		{Signal{Kind: ReleaseInd, Data: "n"}, "release user 6e"},
		{Signal{Kind: ReleaseInd}, "release user -"},
		{Signal{Kind: ReleaseInd, Self: true}, "release self -"},
		{Signal{Kind: ReleaseInd, Self: true, Data: "a", Code: 'V', N: 4}, "release self 61"},
		{Signal{Kind: EstablishInd, Data: "a"}, "establish 61"},
		{Signal{Kind: EstablishInd, Self: true, Code: 'V', N: 4}, "establish -"},
		{Signal{Kind: EstablishConf}, "established"},
		{Signal{Kind: EstablishConf, Data: "a", Self: true, Code: 'V', N: 4}, "established"},
		{Signal{Kind: ReleaseConf, Data: "a", Self: true, Code: 'V', N: 4}, "released"},
		{Signal{Kind: ResyncInd, Data: "\x00\xff", Self: true, Code: 'V', N: 4}, "resync 00ff"},
		{Signal{Kind: ResyncInd}, "resync -"},
		{Signal{Kind: ResyncConf, Data: "a", Self: true, Code: 'V', N: 4}, "resynced"},
		{Signal{Kind: RecoverInd, Data: "a", Self: true, Code: 'V', N: 4}, "recover"},
		{Signal{Kind: DataInd, Data: "a b\n", Self: true, Code: 'V', N: 4}, "data 6120620a"},
		{Signal{Kind: DataInd}, "data -"},
		{Signal{Kind: UnitInd, Data: "u", Self: true, Code: 'V', N: 4}, "unit 75"},
		{Signal{Kind: ManageInd, Data: "m", Self: true, Code: 'V', N: 4}, "manage 6d"},
		{Signal{Kind: Retrieved, Data: "r", Self: true, Code: 'V', N: 4}, "retrieved 72"},
		{Signal{Kind: Retrieved, Data: strings.Repeat("\xab", 1000)}, "retrieved " + strings.Repeat("ab", 1000)},
		{Signal{Kind: Report, Code: 'V', N: 1}, "error V 1"},
		{Signal{Kind: Report, Code: 'V', N: 0}, "error V 0"},
		{Signal{Kind: Report, Code: 'V', N: -17, Data: "a", Self: true}, "error V -17"},
		{Signal{Kind: Report, Code: 'V', N: math.MaxInt}, "error V 9223372036854775807"},
		{Signal{Kind: Report, Code: 'V', N: math.MinInt}, "error V -9223372036854775808"},
		{Signal{Kind: Report, Code: 'U', N: 5, Data: "a", Self: true}, "error U"},
		{Signal{Kind: Report, Code: 'v', N: 5}, "error v"},
		{Signal{Kind: Report}, "error \x00"},
		{Signal{Kind: Report, Code: 0xe9}, "error \xe9"},
	} {
		if got := c.s.Text(); got != c.want {
			t.Errorf("P10.1: Text of %+v: %q, not %q", c.s, got, c.want)
		}
	}
}

// P10.1: a report has the byte Code, whichever it is, and of V alone its number.
func TestReports(t *testing.T) {
	for code := range 256 {
		for _, n := range numbers() {
			want := []byte("error ")
			want = append(want, byte(code))
			if code == 'V' {
				want = fmt.Appendf(want, " %d", n)
			}
			if got := (Signal{Kind: Report, Code: byte(code), N: n}).Text(); got != string(want) {
				t.Errorf("P10.1: Text of a report of %d, %d: %q, not %q", code, n, got, want)
			}
		}
	}
}

// P10.1: there is no such kind, whatever it has.
func TestStrangeSignals(t *testing.T) {
	for _, kind := range strange() {
		for _, s := range []Signal{{Kind: kind}, {Kind: kind, Data: "a", Self: true, Code: 'V', N: 4}} {
			if got := s.Text(); got != "" {
				t.Errorf("P10.1: Text of %+v: %q", s, got)
			}
		}
	}
}

// signals has signals of each kind, each with what is named of it.
func signals() []Signal {
	data := []string{"", "-", "--", "\x00", "\x00\x00", "a", "A", "aa", "61", " ", "self", "user", "user -", "\xff", "é", strings.Repeat("a", 200)}
	var l []Signal
	for kind := EstablishInd; kind <= Retrieved; kind++ {
		switch kind {
		case EstablishConf, ReleaseConf, ResyncConf, RecoverInd:
			l = append(l, Signal{Kind: kind})
		default:
			for _, d := range data {
				l = append(l, Signal{Kind: kind, Data: d})
				if kind == ReleaseInd {
					l = append(l, Signal{Kind: kind, Data: d, Self: true})
				}
			}
		}
	}
	for code := range 256 {
		if code != 'V' {
			l = append(l, Signal{Kind: Report, Code: byte(code)})
		}
	}
	for _, n := range numbers() {
		l = append(l, Signal{Kind: Report, Code: 'V', N: n})
	}
	return l
}

// P10.2: signals that are unlike in what is named have unlike texts.
func TestUnlike(t *testing.T) {
	seen := map[string]Signal{}
	for _, s := range signals() {
		text := s.Text()
		if other, is := seen[text]; is {
			t.Errorf("P10.2: %+v and %+v: %q", s, other, text)
		}
		seen[text] = s
	}
}

// P10.1: Hex of each byte, and of none; and back.
func TestHex(t *testing.T) {
	if got := Hex(""); got != "-" {
		t.Errorf("P10.1: Hex of none: %q", got)
	}
	if got, ok := Unhex("-"); got != "" || !ok {
		t.Errorf("P10.1: Unhex of none: %q, %t", got, ok)
	}
	all := ""
	for b := range 256 {
		s := string([]byte{byte(b)})
		all += s
		for _, x := range []string{s, s + s, "\x00" + s, s + "-", all} {
			want := hex.EncodeToString([]byte(x))
			if got := Hex(x); got != want {
				t.Errorf("P10.1: Hex(%q): %q, not %q", x, got, want)
			}
			if got, ok := Unhex(want); got != x || !ok {
				t.Errorf("P10.1: Unhex(%q): %q, %t", want, got, ok)
			}
		}
	}
	if got := Hex("ab\n"); got != "61620a" {
		t.Errorf("P10.1: Hex: %q", got)
	}
}

// P10.1: what isn't bytes so written.
func TestUnhexWrong(t *testing.T) {
	for _, s := range []string{
		"", "0", "a", "--", "---", "-0", "0-", "-00", "00-", "A0", "0A", "FF", "aF", "g0", "0g", "0x", " ", "  ", "00 ", " 00", "0 0",
		"000", "00000", "61 62", "6162\n", "é", "é0", "0é", "٠٠", "\x00\x00", "\xff\xff", "+1", "-1", "/0", "0/", ":0", "0:", "`0", "0`", "@0", "0@",
	} {
		if got, ok := Unhex(s); got != "" || ok {
			t.Errorf("P10.1: Unhex(%q): %q, %t", s, got, ok)
		}
	}
}

// P10.1: of all texts of two bytes just those that are Hex of a byte are, wherever they stand.
func TestUnhexAll(t *testing.T) {
	for high := range 256 {
		for low := range 256 {
			s := string([]byte{byte(high), byte(low)})
			want := strings.Contains("0123456789abcdef", s[:1]) && strings.Contains("0123456789abcdef", s[1:])
			for _, x := range []string{s, s + "00", "ff" + s} {
				if got, ok := Unhex(x); ok != want || ok && Hex(got) != x || !ok && got != "" {
					t.Errorf("P10.1: Unhex(%q): %q, %t", x, got, ok)
				}
			}
		}
	}
}

// P1: each call ends, of any values of its arguments' types.
func TestCallsEnd(t *testing.T) {
	long := strings.Repeat("\xff-0", 1<<18)
	for _, kind := range slices.Concat(numbers(), strange(), []int{3, 4, 5, 6, 7, 8, 11, 12}) {
		for _, n := range numbers() {
			if (Request{kind, long, n}).Check() == api.OK {
				t.Errorf("P1: Check of kind %d with a long text", kind)
			}
			if n == 1 && strings.Contains((Signal{Kind: kind, Data: long, N: n}).Text(), "\xff") {
				t.Errorf("P1: Text of kind %d with a long text", kind)
			}
		}
	}
	if got, ok := Unhex(Hex(long)); got != long || !ok {
		t.Errorf("P1: a long text there and back: %t", ok)
	}
	if got, ok := Unhex(long); got != "" || ok {
		t.Errorf("P1: Unhex of a long text: %t", ok)
	}
}
