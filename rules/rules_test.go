package rules

import (
	"math"
	"slices"
	"strings"
	"testing"

	"polliwog/event"
	"polliwog/pdu"
)

// chapter is the table of what is done with a unit, as the chapter has it.
const chapter = `
| | BGN | BGAK | END | ENDAK | RS | RSAK | BGREJ | SD | ER | POLL | STAT | USTAT | UD | MD | ERAK |
| Idle | H | R | H | . | R | R | W | R | R | R | R | R | H | H | R |
| Outgoing | H | H | . | . | . | . | H | . | . | . | . | . | H | H | . |
| Incoming | H | W | H | W | W | W | W | W | W | W | W | W | H | H | W |
| Leaving | H | . | H | H | . | . | H | . | . | . | . | . | H | H | . |
| Resyncing | H | . | H | F | H | H | F | . | . | . | . | . | H | H | . |
| Resynced | H | . | H | F | H | . | F | . | . | . | . | . | H | H | . |
| Recovering | H | . | H | F | H | . | F | . | H | . | . | . | H | H | H |
| Answered | H | . | H | F | H | . | F | . | H | . | . | . | H | H | . |
| Recovered | H | . | H | F | H | . | F | . | H | . | . | . | H | H | . |
| Ready | H | . | H | F | H | . | F | H | H | H | H | H | H | H | . |
`

// state is a state's number, by the chapter's word for it; 0: it is none.
func state(word string) int {
	l := []string{"", "Idle", "Outgoing", "Incoming", "Leaving", "Resyncing", "Resynced", "Recovering", "Answered", "Recovered", "Ready"}
	return max(slices.Index(l, word), 0)
}

// kind is a unit's kind, by its name in great letters; 0: there is none.
func kind(word string) int {
	for k := range 20 {
		if word != "" && (pdu.PDU{Kind: k}).Name() == strings.ToLower(word) {
			return k
		}
	}
	return 0
}

// strange has numbers that are neither a state's, nor a kind's.
func strange() []int {
	return []int{
		math.MinInt, math.MinInt + 1, -1 << 32, -256, -16, -15, -11, -10, -1, 0, 16, 17, 25, 150, 255, 256, 257,
		1<<32 + 1, 1<<32 + 10, math.MaxInt - 1, math.MaxInt,
	}
}

// P13.1: the numbers of states, and of what is done.
func TestConstants(t *testing.T) {
	for i, s := range []int{Idle, Outgoing, Incoming, Leaving, Resyncing, Resynced, Recovering, Answered, Recovered, Ready} {
		if s != i+1 {
			t.Errorf("P13.1: the state %d is %d", i+1, s)
		}
	}
	for i, x := range []int{Ignore, Handle, Wrong, Refuse, Fall} {
		if x != i {
			t.Errorf("P13.1: what is done: %d is %d", i, x)
		}
	}
}

// P13.2: what is done with each kind of units in each of the states, as the chapter's table says.
func TestOf(t *testing.T) {
	done := map[string]int{".": Ignore, "H": Handle, "W": Wrong, "R": Refuse, "F": Fall}
	lines := strings.Split(strings.TrimSpace(chapter), "\n")
	head := strings.Split(lines[0], "|")
	words := 0
	for _, line := range lines[1:] {
		cells := strings.Split(line, "|")
		s := state(strings.TrimSpace(cells[1]))
		for i := 2; i < len(cells)-1; i++ {
			k := kind(strings.TrimSpace(head[i]))
			want, is := done[strings.TrimSpace(cells[i])]
			if !is || s == 0 || k == 0 {
				t.Fatalf("the table's %q", cells[i])
			}
			if got := Of(s, k); got != want {
				t.Errorf("P13.2: Of state %d, kind %d: %d, not %d", s, k, got, want)
			}
			words++
		}
	}
	if words != 150 {
		t.Errorf("P13.2: %d words", words)
	}
}

// P13.1: the chapter's example.
func TestExample(t *testing.T) {
	if Of(Idle, pdu.SD) != Refuse || Of(Outgoing, pdu.SD) != Ignore {
		t.Errorf("P13.1: an SD: %d, %d", Of(Idle, pdu.SD), Of(Outgoing, pdu.SD))
	}
}

// P13.1: of another state, or kind, a unit is ignored.
func TestOfStrange(t *testing.T) {
	for _, x := range append(strange(), 11, 12, 13, 14, 15) {
		for y := -20; y <= 40; y++ {
			if got := Of(x, y); got != Ignore {
				t.Errorf("P13.1: Of state %d, kind %d: %d", x, y, got)
			}
		}
		for _, y := range strange() {
			if got := Of(x, y); got != Ignore {
				t.Errorf("P13.1: Of state %d, kind %d: %d", x, y, got)
			}
		}
	}
	for s := Idle; s <= Ready; s++ {
		for _, k := range strange() {
			if got := Of(s, k); got != Ignore {
				t.Errorf("P13.1: Of state %d, kind %d: %d", s, k, got)
			}
		}
	}
}

// P13.1: a letter of each kind of which one is told, 0 of all others.
func TestLetter(t *testing.T) {
	want := map[int]byte{}
	for i, word := range strings.Fields("SD BGN BGAK BGREJ END ENDAK POLL STAT USTAT RS RSAK ER ERAK") {
		want[kind(word)] = "ABCDEFGHIJKLM"[i]
	}
	if len(want) != 13 {
		t.Fatalf("%d kinds", len(want))
	}
	for k := -300; k < 600; k++ {
		if got := Letter(k); got != want[k] {
			t.Errorf("P13.1: Letter of kind %d: %q, not %q", k, got, want[k])
		}
	}
	for _, k := range strange() {
		if got := Letter(k); got != 0 {
			t.Errorf("P13.1: Letter of kind %d: %q", k, got)
		}
	}
}

// allowed has of each request the states in which it may be made.
func allowed() map[int]string {
	const any = "Idle Outgoing Incoming Leaving Resyncing Resynced Recovering Answered Recovered Ready"
	return map[int]string{
		event.Establish: "Idle Leaving",
		event.Accept:    "Incoming",
		event.Release:   "Outgoing Incoming Resyncing Resynced Recovering Answered Recovered Ready",
		event.Resync:    "Answered Ready",
		event.Resynced:  "Resynced",
		event.Recovered: "Answered Recovered",
		event.Data:      "Ready",
		event.Unit:      any, event.Manage: any, event.Take: any, event.Retrieve: any,
	}
}

// P13.2: in which state which request may be made; P13.1: others never, and none in another state.
func TestMay(t *testing.T) {
	want := map[[2]int]bool{}
	for request, words := range allowed() {
		for _, word := range strings.Fields(words) {
			want[[2]int{state(word), request}] = true
		}
	}
	var l []int
	for x := -20; x < 40; x++ {
		l = append(l, x)
	}
	l = append(l, strange()...)
	for _, s := range l {
		for _, request := range l {
			if got := May(s, request); got != want[[2]int{s, request}] {
				t.Errorf("P13.2: May in state %d, request %d: %t", s, request, got)
			}
		}
	}
}

// P13.1: the words of the states, and none of another one.
func TestName(t *testing.T) {
	l := []string{"", "idle", "outgoing", "incoming", "leaving", "resyncing", "resynced", "recovering", "answered", "recovered", "ready"}
	for s := -20; s < 40; s++ {
		want := ""
		if s > 0 && s < len(l) {
			want = l[s]
		}
		if got := Name(s); got != want {
			t.Errorf("P13.1: Name of state %d: %q, not %q", s, got, want)
		}
	}
	for _, s := range strange() {
		if got := Name(s); got != "" {
			t.Errorf("P13.1: Name of state %d: %q", s, got)
		}
	}
}

// P13.2: each state has one of the five words for each kind; what is told of has a letter; a state with all there is to do has a request that leads out of it.
func TestCovered(t *testing.T) {
	for s := Idle; s <= Ready; s++ {
		for k := pdu.BGN; k <= pdu.ERAK; k++ {
			x := Of(s, k)
			if x < Ignore || x > Fall {
				t.Errorf("P13.2: Of state %d, kind %d: %d", s, k, x)
			}
			if x >= Wrong && Letter(k) == 0 {
				t.Errorf("P13.2: state %d, kind %d: wrong, and has no letter", s, k)
			}
		}
		if Of(s, pdu.UD) != Handle || Of(s, pdu.MD) != Handle || Of(s, pdu.BGN) != Handle {
			t.Errorf("P13.2: state %d: UD, MD, BGN aren't handled", s)
		}
		out := 0
		for request := event.Establish; request <= event.Recovered; request++ {
			if May(s, request) {
				out++
			}
		}
		if out == 0 {
			t.Errorf("P13.2: no request leads out of state %d", s)
		}
	}
}

// P13.1: what a call answers hangs on its arguments alone.
func TestAlike(t *testing.T) {
	for range 20 {
		for s := Idle; s <= Ready; s++ {
			for k := pdu.BGN; k <= pdu.ERAK; k++ {
				if Of(s, k) != Of(s, k) || units()[s] != units()[s] {
					t.Fatalf("rule 6: Of state %d, kind %d", s, k)
				}
			}
		}
	}
}
