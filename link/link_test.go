package link

import (
	"fmt"
	"math"
	"strings"
	"testing"

	"polliwog/api"
	"polliwog/event"
	"polliwog/frame"
	"polliwog/node"
	"polliwog/pace"
	"polliwog/pdu"
	"polliwog/pipe"
	"polliwog/rules"
	"polliwog/seq"
)

// P18.1: the kinds' numbers.
func TestKinds(t *testing.T) {
	for i, kind := range []int{Sent, Came, Garbled, Lost, Told, Asked} {
		if kind != i+1 {
			t.Errorf("P18.1: kind %d, not %d", kind, i+1)
		}
	}
}

// P18.1: a config at its edges: both ends', one Start, and Room.
func TestCheck(t *testing.T) {
	for _, room := range []int{math.MinInt, -1, 0, 1, 2, 255, 256, 257, 1 << 32, 1<<32 + 1, math.MaxInt} {
		want := api.OK
		if room < 1 || room > 256 {
			want = api.ErrArg
		}
		check(t, usual(4, 4, 8, 9, room, 0), want)
	}
	for _, x := range []struct {
		a, b seq.Num
		want api.Errno
	}{
		{0, 0, api.OK}, {5, 5, api.OK}, {api.Modulus - 1, api.Modulus - 1, api.OK},
		{0, 1, api.ErrArg}, {1, 0, api.ErrArg}, {0, api.Modulus, api.ErrArg}, {api.Modulus, api.Modulus, api.ErrArg},
		{1 + api.Modulus, 1, api.ErrArg}, {math.MaxUint32, math.MaxUint32, api.ErrArg},
	} {
		c := usual(4, 4, 8, 9, 20, 0)
		c.Ends[0].Start, c.Ends[1].Start = x.a, x.b
		check(t, c, x.want)
	}
	for end := range 2 {
		for _, spoil := range []func(c *node.Config){
			func(c *node.Config) { c.Most = 17 },
			func(c *node.Config) { c.Window = 65 },
			func(c *node.Config) { c.Queue = 0 },
			func(c *node.Config) { c.Units = -1 },
			func(c *node.Config) { c.Polls = 257 },
			func(c *node.Config) { c.Pace.Poll = c.Pace.Silent },
			func(c *node.Config) { c.Pace = pace.Config{} },
		} {
			c := usual(4, 4, 8, 9, 20, 0)
			spoil(&c.Ends[end])
			check(t, c, api.ErrArg)
		}
	}
	// But for Start the ends may be unlike.
	c := usual(1, 64, 8, 9, 20, 7)
	c.Ends[1] = node.Config{Most: 16, Window: 2, Queue: 256, Units: 64, Polls: 1, Start: 7, Pace: pace.Config{CC: 1, Poll: 1, Keep: 1, Silent: 2, Idle: 1}}
	check(t, c, api.OK)
	check(t, Config{}, api.ErrArg)
}

// check asks Check, and New, which answers the same.
func check(t *testing.T, c Config, want api.Errno) {
	t.Helper()
	if code := c.Check(); code != want {
		t.Errorf("P18.1: Check of %+v: %d, not %d", c, code, want)
	}
	l, code := New(c)
	if code != want || (l == nil) != (want != api.OK) {
		t.Errorf("P18.1: New of %+v: %v, %d, not %d", c, l, code, want)
	}
}

// P18.1: a new link: both ends in Idle, each as its own config says, both pipes empty.
func TestNew(t *testing.T) {
	l := made(t, usual(2, 3, 8, 9, 20, 5))
	for end := range 2 {
		n, p := l.Node(end), l.Pipe(end)
		if v := n.Vars(); v.Conn.State != rules.Idle || v.Conn.MS != seq.Num(7+end) {
			t.Errorf("P18.1: end %d: %+v", end, v)
		}
		if p.Len() != 0 || p.Room() != 20 {
			t.Errorf("P18.1: the pipe to %d: %d, room for %d", end, p.Len(), p.Room())
		}
	}
	if l.Node(0) == l.Node(1) || l.Pipe(0) == l.Pipe(1) || !l.Quiet() {
		t.Errorf("P18.1: %s", snap(l))
	}
}

// P18.1: the chapter's example: the pipe of an end is that to the other one.
func TestExample(t *testing.T) {
	for end := range 2 {
		p := begin(t, usual(4, 4, 8, 9, 20, 0))
		p.want(p.ask(end, event.Establish, "ab"), strings.ReplaceAll(`E ? 1 "ab"; E > bgn sq1 n4 "ab"`, "E", fmt.Sprint(end)))
		if p.Pipe(end).Len() != 0 || p.Pipe(1-end).Len() != 1 {
			t.Fatalf("P18.1: %s", snap(p.Link))
		}
		want := pack(t, pdu.PDU{Kind: pdu.BGN, SQ: 1, N: 4, Data: "ab"})
		if got := p.Pipe(1 - end).All(); got[0] != want {
			t.Errorf("P18.1: the frame %q, not %q", got[0], want)
		}
	}
}

// P18.1: what the document's examples of the whole tell of a link.
func TestDocument(t *testing.T) {
	p := begin(t, usual(2, 3, 8, 9, 20, 5))
	p.want(p.ask(0, event.Establish, "a"), `0 ? 1 "a"; 0 > bgn sq1 n7 "a"`)
	p.want(p.carry(1), `1 < bgn sq1 n7 "a"; 1 : establish 61`)
	p.want(p.ask(1, event.Accept, ""), "1 ? 2; 1 > bgak sq1 n8")
	p.want(p.carry(0), "0 < bgak sq1 n8; 0 : established")

	p = begin(t, usual(2, 3, 8, 9, 20, 0))
	p.want(p.ask(0, event.Establish, ""), "0 ? 1; 0 > bgn sq1 n2")
	p.want(p.carry(1), "1 < bgn sq1 n2; 1 : establish -")
	p.want(p.ask(1, event.Release, "n"), `1 ? 3 "n"; 1 > bgrej sq1 "n"`)
	p.want(p.carry(0), `0 < bgrej sq1 "n"; 0 : release user 6e`)

	p = begin(t, usual(4, 4, 8, 9, 20, 0))
	p.establish()
	p.want(p.ask(0, event.Data, "a"), `0 ? 7 "a"; 0 > sd "a"`)
	p.want(p.ask(0, event.Data, "b"), `0 ? 7 "b"; 0 > sd n1 "b"`)
	p.want(p.lose(1), "1 x")
	p.want(p.carry(1), `1 < sd n1 "b"; 1 > ustat mr4 [0 1]`)
	p.want(p.carry(0), `0 < ustat mr4 [0 1]; 0 : error V 1; 0 > sd "a"`)
	p.want(p.carry(1), `1 < sd "a"; 1 : data 61; 1 : data 62`)
	p.want(p.take(1, 64), "1 ? 10 64")

	p = begin(t, usual(4, 4, 8, 9, 20, 0))
	p.want(p.ask(0, event.Data, "a"), "code 8")
	p.want(p.ask(0, event.Accept, ""), "code 8")
	p.want(p.ask(1, event.Unit, "u"), `1 ? 8 "u"; 1 > ud "u"`)
	p.want(p.carry(0), `0 < ud "u"; 0 : unit 75`)
	p.want(p.ask(0, event.Manage, "m"), `0 ? 9 "m"; 0 > md "m"`)
	p.want(p.spoil(1, 3, 1<<31), "1 #; 1 : error U")
	p.want(p.carry(1), "none")

	p = begin(t, usual(1, 1, 8, 9, 20, 0))
	p.ask(0, event.Establish, "")
	p.carry(1)
	p.ask(1, event.Accept, "")
	p.want(p.tick(1), ".")
	p.want(p.carry(0), "0 < bgak sq1 n1; 0 : established")
	p.want(p.tick(2), "1 > poll ps1")
	p.want(p.carry(0), "0 < poll ps1; 0 > stat ps1 mr1")
	p.want(p.carry(1), "1 < stat ps1 mr1")

	p = begin(t, usual(4, 4, 8, 9, 20, 0))
	p.establish()
	p.want(p.ask(0, event.Resync, ""), "0 ? 4; 0 > rs sq2 n4")
	p.want(p.ask(1, event.Resync, ""), "1 ? 4; 1 > rs sq1 n4")
	p.want(p.carry(1), "1 < rs sq2 n4; 1 : resynced; 1 > rsak sq2 n4")
	p.want(p.carry(0), "0 < rs sq1 n4; 0 : resynced; 0 > rsak sq1 n4")

	c := usual(4, 4, 8, 9, 20, 0)
	for end := range c.Ends {
		c.Ends[end].Pace = pace.Config{CC: 2, Poll: 3, Keep: 6, Silent: 12, Idle: 5}
	}
	p = begin(t, c)
	p.ask(0, event.Establish, "")
	p.want(p.tick(2), "0 > bgn sq1 n4")
	p.want(p.tick(2), "0 > bgn sq1 n4")
	p.want(p.tick(2), "0 : error O; 0 : release self -; 0 > end sq1 self")
}

// P18.1: of neither end nothing is done, nor answered.
func TestNeitherEnd(t *testing.T) {
	p := begin(t, usual(4, 4, 8, 9, 20, 0))
	p.establish()
	p.ask(0, event.Data, "a")
	before := snap(p.Link)
	for _, end := range odd() {
		for _, r := range []event.Request{{Kind: event.Data, Data: "a"}, {Kind: event.Release}, {Kind: event.Take, N: 1}, {}, {Kind: 12}, {Kind: event.Data, Data: strings.Repeat("d", 201)}} {
			if records, code := p.Request(end, r); code != api.ErrArg || records != nil {
				t.Errorf("P18.1: Request at %d: %s, code %d", end, lines(records), code)
			}
		}
		for kind := range 4 {
			if records, is := p.Carry(end, pipe.Choice{Kind: kind}); is || records != nil {
				t.Errorf("P18.1: Carry to %d: %s, %t", end, lines(records), is)
			}
		}
		for _, s := range []string{"", "a frame", pack(t, pdu.PDU{Kind: pdu.UD})} {
			if records := p.Bring(end, s); records != nil {
				t.Errorf("P18.1: Bring to %d: %s", end, lines(records))
			}
		}
		if p.Node(end) != nil || p.Pipe(end) != nil {
			t.Errorf("P18.1: Node, Pipe of %d", end)
		}
	}
	if snap(p.Link) != before {
		t.Errorf("P18.1: %s, not %s", snap(p.Link), before)
	}
}

// P18.1: a request that is refused tells the end's error, and changes nothing; nothing goes out behind it either.
func TestRefused(t *testing.T) {
	c := usual(4, 4, 2, 9, 1, 0)
	c.Ends[0].Units = 1
	p := begin(t, c)
	p.establish()
	for _, m := range []string{"a", "b", "c"} {
		p.ask(0, event.Data, m)
	}
	p.ask(0, event.Unit, "u")
	before := snap(p.Link)
	for _, x := range []struct {
		r    event.Request
		want api.Errno
	}{
		{event.Request{}, api.ErrKind},
		{event.Request{Kind: 12, Data: strings.Repeat("d", 300)}, api.ErrKind},
		{event.Request{Kind: math.MinInt, N: -1}, api.ErrKind},
		{event.Request{Kind: event.Release, Data: strings.Repeat("d", 65)}, api.ErrBig},
		{event.Request{Kind: event.Data, Data: strings.Repeat("d", 201), N: 1}, api.ErrBig},
		{event.Request{Kind: event.Take}, api.ErrArg},
		{event.Request{Kind: event.Take, N: 65}, api.ErrArg},
		{event.Request{Kind: event.Accept, Data: "a"}, api.ErrArg},
		{event.Request{Kind: event.Establish}, api.ErrState},
		{event.Request{Kind: event.Resynced}, api.ErrState},
		{event.Request{Kind: event.Data, Data: "d"}, api.ErrFull},
		{event.Request{Kind: event.Manage, Data: "m"}, api.ErrFull},
	} {
		p.want(p.request(0, x.r), fmt.Sprint("code ", x.want))
	}
	// Behind this one there is room, which nobody used yet.
	p.Pipe(1).Take(pipe.Choice{})
	waits := snap(p.Link)
	p.want(p.ask(0, event.Establish, ""), "code 8")
	p.want(p.carry(0), "none")
	if before == waits || snap(p.Link) != waits {
		t.Errorf("P18.1: %s, not %s", snap(p.Link), waits)
	}
	p.want(p.take(1, 1), `1 ? 10 1; 0 > ud "u"`)
}

// P18.1: what waits goes out as soon as its pipe has room, end 0's ahead of end 1's, whichever call made it.
func TestRoom(t *testing.T) {
	p := begin(t, usual(4, 4, 8, 9, 2, 0))
	p.establish()
	for end := range 2 {
		p.want(p.ask(end, event.Data, "a"), fmt.Sprintf(`%d ? 7 "a"; %d > sd "a"`, end, end))
		p.want(p.ask(end, event.Data, "b"), fmt.Sprintf(`%d ? 7 "b"; %d > sd n1 "b"`, end, end))
		p.want(p.ask(end, event.Data, "c"), fmt.Sprintf(`%d ? 7 "c"`, end))
		p.want(p.ask(end, event.Data, "d"), fmt.Sprintf(`%d ? 7 "d"`, end))
		p.want(p.ask(end, event.Unit, "u"), fmt.Sprintf(`%d ? 8 "u"`, end))
	}
	p.want(p.lose(0), `0 x; 1 > ud "u"`)
	p.want(p.spoil(1, 0, 1), `1 #; 1 : error U; 0 > ud "u"`)
	p.want(p.carry(0), `0 < sd n1 "b"; 1 > sd n2 "c"`)
	p.want(p.carry(1), `1 < sd n1 "b"; 0 > ustat mr4 [0 1]`)
	p.want(p.carry(0), `0 < ud "u"; 0 : unit 75; 1 > ustat mr4 [0 1]`)
	p.want(p.tick(3), ".")
	p.want(p.carry(1), `1 < ud "u"; 1 : unit 75; 0 > poll n2 ps1`)
	// Both ends have something to go out, and room, at once.
	p.Pipe(0).Take(pipe.Choice{})
	p.Pipe(0).Take(pipe.Choice{})
	p.Pipe(1).Take(pipe.Choice{})
	p.want(p.tick(1), `0 > sd n2 "c"; 1 > poll n3 ps1; 1 > sd n3 "d"`)
	p.want(p.carry(1), `1 < poll n2 ps1; 0 > sd n3 "d"`)
	p.want(p.carry(0), `0 < poll n3 ps1; 1 > stat ps1 mr4 [0 1]`)
}

// P18.1: what a request tells comes ahead of all that goes out.
func TestRequestTells(t *testing.T) {
	p := begin(t, usual(1, 1, 8, 9, 1, 0))
	p.establish()
	p.want(p.ask(0, event.Data, "a"), `0 ? 7 "a"; 0 > sd "a"`)
	p.want(p.ask(0, event.Unit, "u"), `0 ? 8 "u"`)
	p.Pipe(1).Take(pipe.Choice{})
	p.want(p.ask(0, event.Data, "b"), `0 ? 7 "b"; 0 : error W; 0 > ud "u"`)
	p.want(p.ask(0, event.Release, ""), "0 ? 3")
	p.want(p.carry(1), `1 < ud "u"; 1 : unit 75; 0 > end sq1`)
	p.want(p.ask(0, event.Retrieve, ""), "0 ? 11; 0 : retrieved 61; 0 : retrieved 62")
	p.want(p.ask(0, event.Retrieve, ""), "0 ? 11")
}

// P18.1: signals of a tick are told end by end, end 0's first, ahead of all that goes out.
func TestTick(t *testing.T) {
	c := usual(4, 4, 8, 9, 20, 0)
	c.Ends[0].Most, c.Ends[1].Most = 1, 1
	p := begin(t, c)
	p.want(p.tick(5), ".")
	p.want(p.ask(1, event.Establish, "b"), `1 ? 1 "b"; 1 > bgn sq1 n4 "b"`)
	p.want(p.ask(0, event.Establish, "a"), `0 ? 1 "a"; 0 > bgn sq1 n4 "a"`)
	p.want(p.tick(3), ".")
	p.want(p.tick(1), "0 : error O; 0 : release self -; 1 : error O; 1 : release self -; 0 > end sq1 self; 1 > end sq1 self")
}

// P18.1: frames that are Brought: units that no end told, and what is none.
func TestBring(t *testing.T) {
	p := begin(t, usual(4, 4, 8, 9, 20, 0))
	p.want(p.bring(1, pdu.PDU{Kind: pdu.BGN, SQ: 9, N: 2, Data: "x"}), `1 < bgn sq9 n2 "x"; 1 : establish 78`)
	p.want(p.ask(1, event.Accept, ""), "1 ? 2; 1 > bgak sq9 n4")
	p.want(p.bring(1, pdu.PDU{Kind: pdu.SD, N: 1, Data: "b"}), `1 < sd n1 "b"; 1 > ustat mr4 [0 1]`)
	p.want(p.bring(1, pdu.PDU{Kind: pdu.SD, Data: "a"}), `1 < sd "a"; 1 : data 61; 1 : data 62`)
	p.want(p.bring(1, pdu.PDU{Kind: pdu.POLL, N: 9, PS: 1}), "1 < poll n9 ps1; 1 : error Q; 1 > er sq1 n4")
	p.want(p.bring(0, pdu.PDU{Kind: pdu.MD, Data: "m"}), `0 < md "m"; 0 : manage 6d`)
	p.want(p.bring(0, pdu.PDU{Kind: pdu.POLL}), "0 < poll; 0 : error G; 0 > end self")
	good := pack(t, pdu.PDU{Kind: pdu.UD, Data: "u"})
	for _, s := range []string{
		"", "a", strings.Repeat("\x00", 48), strings.Repeat("d", 5000), good[1:], good + "d", good + good, frame.Flip(good, 9, 1), frame.Flip(good, 380, 1<<31),
	} {
		for end := range 2 {
			p.want(lines(p.Bring(end, s)), fmt.Sprintf("%d #; %d : error U", end, end))
		}
	}
	if p.Pipe(0).Len() != 3 || p.Pipe(1).Len() != 1 {
		t.Errorf("P18.1: %s", snap(p.Link))
	}
	if put, came, harmed := p.Pipe(1).Counts(); put != 1 || came != 0 || harmed != 0 {
		t.Errorf("P18.1: %d put, %d came, %d harmed", put, came, harmed)
	}
	// A frame that is Brought comes ahead of those that are on their way, and is beside them.
	p.want(p.bring(0, pdu.PDU{Kind: pdu.UD, Data: "u"}), `0 < ud "u"; 0 : unit 75`)
	p.want(p.carry(0), "0 < bgak sq9 n4; 0 : error C; 0 > end self")
}

// P18.1: what comes of a frame, by its choice.
func TestCarry(t *testing.T) {
	p := begin(t, usual(4, 4, 8, 9, 20, 0))
	for end := range 2 {
		for kind := range 4 {
			p.want(p.choose(end, pipe.Choice{Kind: kind, Mask: 1}), "none")
		}
	}
	for _, x := range []struct {
		c    pipe.Choice
		want string
	}{
		{pipe.Choice{}, `1 < ud "u"; 1 : unit 75`},
		{pipe.Choice{Kind: pipe.Lose}, "1 x"},
		{pipe.Choice{Kind: pipe.Spoil, Mask: 1 << 31}, "1 #; 1 : error U"},
		{pipe.Choice{Kind: pipe.Spoil, At: 352, Mask: math.MaxUint32}, "1 #; 1 : error U"},
		{pipe.Choice{Kind: pipe.Spoil}, `1 < ud "u"; 1 : unit 75`},
		{pipe.Choice{Kind: pipe.Spoil, At: 384, Mask: math.MaxUint32}, `1 < ud "u"; 1 : unit 75`},
		{pipe.Choice{Kind: pipe.Spoil, At: -32, Mask: math.MaxUint32}, `1 < ud "u"; 1 : unit 75`},
		{pipe.Choice{Kind: 3, Mask: 1 << 31}, `1 < ud "u"; 1 : unit 75`},
		{pipe.Choice{Kind: -1, Mask: 1 << 31}, `1 < ud "u"; 1 : unit 75`},
	} {
		p.want(p.ask(0, event.Unit, "u"), `0 ? 8 "u"; 0 > ud "u"`)
		p.want(p.choose(0, x.c), "none")
		p.want(p.choose(1, x.c), x.want)
		p.want(p.choose(1, x.c), "none")
	}
	if put, came, harmed := p.Pipe(1).Counts(); put != 9 || came != 6 || harmed != 3 {
		t.Errorf("P18.1: %d put, %d came, %d harmed", put, came, harmed)
	}
}

// P18.1: Quiet hangs on both pipes, and both ends.
func TestQuiet(t *testing.T) {
	for end := range 2 {
		p := begin(t, usual(4, 4, 8, 9, 1, 0))
		quiet := func(want bool) {
			t.Helper()
			if p.Quiet() != want {
				t.Fatalf("P18.1: Quiet: %t: %s", !want, snap(p.Link))
			}
		}
		p.ask(end, event.Unit, "u")
		quiet(false) // a frame in its pipe
		p.ask(end, event.Unit, "v")
		p.Pipe(1 - end).Take(pipe.Choice{})
		quiet(false) // a unit that waits
		p.tick(1)
		p.carry(1 - end)
		quiet(true)
		p.establish()
		quiet(true)
		p.ask(end, event.Data, "a")
		p.lose(1 - end)
		quiet(false) // a message that isn't acknowledged
	}
}

// P18.1: a clone goes its own way, in both ends and both pipes.
func TestClone(t *testing.T) {
	start := func() play {
		p := begin(t, usual(4, 4, 8, 9, 2, 0))
		p.establish()
		for end := range 2 {
			for _, m := range []string{"a", "b", "c"} {
				p.ask(end, event.Data, m)
			}
		}
		p.lose(0)
		return p
	}
	for what, do := range map[string]func(p play) string{
		"Data":    func(p play) string { return p.ask(0, event.Data, "d") },
		"Unit":    func(p play) string { return p.ask(1, event.Unit, "u") },
		"Release": func(p play) string { return p.ask(1, event.Release, "") },
		"Tick":    func(p play) string { return p.tick(3) },
		"Carry":   func(p play) string { return p.carry(0) },
		"Lose":    func(p play) string { return p.lose(1) },
		"Bring":   func(p play) string { return p.bring(0, pdu.PDU{Kind: pdu.RS, SQ: 7, N: 9}) },
	} {
		p := start()
		c := play{Link: p.Clone(), t: t}
		before := snap(p.Link)
		if snap(c.Link) != before || c.Node(0) == p.Node(0) || c.Pipe(0) == p.Pipe(0) {
			t.Errorf("P18.1: a clone: %s, not %s", snap(c.Link), before)
		}
		told := do(c)
		if snap(p.Link) != before || snap(c.Link) == before {
			t.Errorf("P18.1: %s of a clone:\n%s, not\n%s", what, snap(p.Link), before)
		}
		c = play{Link: p.Clone(), t: t}
		p.want(do(p), told)
		if snap(c.Link) != before {
			t.Errorf("P18.1: %s of what was cloned:\n%s, not\n%s", what, snap(c.Link), before)
		}
		c.want(do(c), told)
		if snap(c.Link) != snap(p.Link) {
			t.Errorf("P18.1: %s: a clone:\n%s, not\n%s", what, snap(c.Link), snap(p.Link))
		}
	}
}

// P18.1: Node and Pipe answer the link's own.
func TestOwn(t *testing.T) {
	p := begin(t, usual(4, 4, 8, 9, 20, 0))
	for end := range 2 {
		n, way := p.Node(end), p.Pipe(end)
		p.ask(1-end, event.Unit, "u")
		p.tick(1)
		if way.Len() != 1 || n != p.Node(end) || way != p.Pipe(end) {
			t.Errorf("P18.1: Node, Pipe of %d", end)
		}
	}
	p.carry(0)
	p.carry(1)
	p.establish()
	for end := range 2 {
		if v := p.Node(end).Vars(); v.Conn.State != rules.Ready {
			t.Errorf("P18.1: end %d: %+v", end, v)
		}
	}
}

// Rule 5: records are new memory.
func TestNewMemory(t *testing.T) {
	start := func() play {
		p := begin(t, usual(9, 9, 9, 9, 20, 0))
		p.establish()
		for _, m := range []string{"a", "b", "c"} {
			p.ask(0, event.Data, m)
		}
		return p
	}
	p, q := start(), start()
	// All that is answered is changed: nothing that comes of it is.
	change := func(records []Record) string {
		s := lines(records)
		for i := range records {
			clear(records[i].Unit.List)
		}
		clear(records)
		return s
	}
	for range 12 {
		for end := range 2 {
			kind := pipe.Carry
			if p.Pipe(1).Len() == 3 {
				kind = pipe.Lose
			}
			a, _ := p.Carry(end, pipe.Choice{Kind: kind})
			b, _ := q.Carry(end, pipe.Choice{Kind: kind})
			p.want(change(a), lines(b))
		}
		p.want(change(p.Tick()), lines(q.Tick()))
	}
	if snap(p.Link) != snap(q.Link) {
		t.Errorf("rule 5: %s, not %s", snap(p.Link), snap(q.Link))
	}
	if p.Node(0).Vars().Send.A != 3 {
		t.Errorf("rule 5: %s", snap(p.Link))
	}
}
