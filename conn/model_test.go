package conn

import (
	"fmt"
	"reflect"
	"slices"
	"strings"
	"testing"

	"polliwog/api"
	"polliwog/event"
	"polliwog/pdu"
	"polliwog/rules"
	"polliwog/seq"
)

// chapter is the table of what is done with a unit that is handled, as the chapter has it.
const chapter = `
| BGN, old | Idle | BGREJ back |
| | Resyncing to Ready | BGAK back |
| BGN, not old | | Heard, and: |
| | Idle | EstablishInd: Incoming |
| | Outgoing | BGAK back; EstablishConf; Ready |
| | Leaving | ReleaseConf; EstablishInd; the timer Stops: Incoming |
| | else | ReleaseInd (user); EstablishInd; the timer Stops: Incoming |
| BGAK, fits | Outgoing | MS is its credit; EstablishConf; Ready |
| BGREJ, fits | Outgoing | ReleaseInd (user, its data); the timer Stops: Idle |
| | Leaving | ReleaseConf; the timer Stops: Idle |
| END | | ENDAK back, and: |
| | Incoming, Resyncing to Ready | ReleaseInd (its Self and data); the timer Stops: Idle |
| | Leaving | ReleaseConf; the timer Stops: Idle |
| ENDAK, fits | Leaving | ReleaseConf; the timer Stops: Idle |
| RS, old | Recovering to Ready | RSAK back |
| RS, not old | | Heard, and: |
| | Resyncing | RSAK back; ResyncConf; Ready |
| | Recovering to Ready | ResyncInd (its data); the timer Stops: Resynced |
| RSAK, fits | Resyncing | MS is its credit; ResyncConf; Ready |
| ER, old | Answered, Ready | ERAK back |
| ER, not old | | Heard, and: |
| | Recovering | ERAK back; RecoverInd; the timer Stops: Answered |
| | Answered | ERAK back |
| | Ready | RecoverInd: Recovered |
| ERAK, fits | Recovering | MS is its credit; RecoverInd; the timer Stops: Answered |
`

// named answers the place of a word from 1 on, or 0.
func named(words, word string) int {
	return 1 + slices.Index(strings.Fields(words), word)
}

func stateOf(word string) int {
	return named("Idle Outgoing Incoming Leaving Resyncing Resynced Recovering Answered Recovered Ready", word)
}

func kindOf(word string) int {
	return named("BGN BGAK END ENDAK RS RSAK BGREJ SD ER POLL STAT USTAT UD MD ERAK", word)
}

func signalOf(word string) int {
	return named("EstablishInd EstablishConf ReleaseInd ReleaseConf ResyncInd ResyncConf RecoverInd DataInd UnitInd ManageInd Retrieved Report", word)
}

// line is one of the table's: which unit, in which states, and what is done, deed by deed.
type line struct {
	unit, states string
	deeds        []string
}

// lines answers the table, taken to pieces.
func lines() []line {
	var l []line
	unit := ""
	for _, s := range strings.Split(strings.TrimSpace(chapter), "\n") {
		cells := strings.Split(s, "|")
		if u := strings.TrimSpace(cells[1]); u != "" {
			unit = u
		}
		done := strings.TrimSuffix(strings.TrimSpace(cells[3]), ", and:")
		// A state that is come to is a deed like the other ones.
		done = strings.ReplaceAll(done, ": ", "; to ")
		x := line{unit: unit, states: strings.TrimSpace(cells[2])}
		for _, d := range strings.Split(done, ";") {
			x.deeds = append(x.deeds, strings.TrimSpace(d))
		}
		l = append(l, x)
	}
	return l
}

// in asks whether a state is one of those that a line names.
func (x line) in(state int) bool {
	for _, s := range strings.Split(x.states, ",") {
		first, last, _ := strings.Cut(strings.TrimSpace(s), " to ")
		if last == "" {
			last = first
		}
		if stateOf(first) <= state && state <= stateOf(last) {
			return true
		}
	}
	return false
}

// model is a connection as the chapter's words say it.
type model struct {
	most, state, sq, peer, cc int
	credit, ms                seq.Num
	data                      string
	out                       Result
}

func newModel(c Config) *model {
	credit := c.Credit % api.Modulus
	return &model{most: min(max(c.Most, 1), 16), state: stateOf("Idle"), peer: -1, credit: credit, ms: credit}
}

// unit has an SQ, a credit if the kind has one, and what else is said.
func (m *model) unit(word string, sq int, self bool, data string) {
	p := pdu.PDU{Kind: kindOf(word), SQ: sq, Self: self, Data: data}
	if slices.Contains(strings.Fields("BGN BGAK RS RSAK ER ERAK"), word) {
		p.N = m.credit
	}
	m.out.Units = append(m.out.Units, p)
}

func (m *model) tell(s event.Signal) {
	m.out.Signals = append(m.out.Signals, s)
}

func (m *model) report(code byte) {
	m.tell(event.Signal{Kind: event.Report, Code: code})
}

// begin is Begin X.
func (m *model) begin(word, state, data string) {
	m.sq++
	if m.sq == 256 {
		m.sq = 0
	}
	m.cc, m.data, m.state = 1, data, stateOf(state)
	m.unit(word, m.sq, false, data)
	m.out.Timer = Starts
}

func (m *model) ready() {
	m.out.Begins, m.out.MS = true, m.ms
	m.state = stateOf("Ready")
	m.out.Timer = Stops
}

// end takes the answer of a call that began in a state.
func (m *model) end(was int) Result {
	r := m.out
	r.Ends = was == stateOf("Ready") && m.state != stateOf("Ready")
	m.out = Result{}
	return r
}

func (m *model) request(kind int, data string) (Result, api.Errno) {
	was := m.state
	if kind < 1 || kind > 6 {
		return Result{}, api.ErrKind
	}
	if (kind == event.Establish || kind == event.Release || kind == event.Resync) && len(data) > 64 {
		return Result{}, api.ErrBig
	}
	if !rules.May(m.state, kind) {
		return Result{}, api.ErrState
	}
	switch kind {
	case event.Establish:
		m.begin("BGN", "Outgoing", data)
	case event.Accept:
		m.unit("BGAK", m.peer, false, "")
		m.ready()
	case event.Release:
		if was == stateOf("Incoming") {
			m.unit("BGREJ", m.peer, false, data)
			m.state = stateOf("Idle")
			break
		}
		m.cc, m.data, m.state = 1, data, stateOf("Leaving")
		m.unit("END", m.sq, false, data)
		m.out.Timer = Starts
	case event.Resync:
		m.begin("RS", "Resyncing", data)
	case event.Resynced:
		m.unit("RSAK", m.peer, false, "")
		m.ready()
	case event.Recovered:
		if was == stateOf("Recovered") {
			m.unit("ERAK", m.peer, false, "")
		}
		m.ready()
	}
	return m.end(was), api.OK
}

func (m *model) receive(p pdu.PDU) Result {
	was := m.state
	switch rules.Of(m.state, p.Kind) {
	case rules.Handle:
		m.handle(p)
	case rules.Wrong:
		m.report(rules.Letter(p.Kind))
	case rules.Refuse:
		m.report(rules.Letter(p.Kind))
		m.unit("END", m.sq, true, "")
	case rules.Fall:
		m.report(rules.Letter(p.Kind))
		m.tell(event.Signal{Kind: event.ReleaseInd, Self: true})
		m.state, m.out.Timer = stateOf("Idle"), Stops
	}
	return m.end(was)
}

// handle goes through the table: a line without states is done in each, one of else where no other one was.
func (m *model) handle(p pdu.PDU) {
	was, old, fits, done := m.state, p.SQ == m.peer, p.SQ == m.sq, false
	for _, x := range lines() {
		word, how, _ := strings.Cut(x.unit, ", ")
		if kindOf(word) != p.Kind || how == "old" && !old || how == "not old" && old || how == "fits" && !fits {
			continue
		}
		if x.states == "" || x.in(was) || x.states == "else" && !done {
			done = done || x.states != ""
			for _, d := range x.deeds {
				m.deed(d, p)
			}
		}
	}
}

// deed does one thing that the table names.
func (m *model) deed(d string, p pdu.PDU) {
	word, what, _ := strings.Cut(d, " ")
	switch {
	case d == "Heard":
		m.peer, m.ms = p.SQ, p.N
	case d == "Ready":
		m.ready()
	case d == "the timer Stops":
		m.out.Timer = Stops
	case d == "MS is its credit":
		m.ms = p.N
	case word == "to":
		m.state = stateOf(what)
	case what == "back":
		m.unit(word, p.SQ, false, "")
	case signalOf(word) > 0:
		s := event.Signal{Kind: signalOf(word)}
		if word == "EstablishInd" || strings.Contains(what, "data") {
			s.Data = p.Data
		}
		s.Self = strings.Contains(what, "Self") && p.Self
		m.tell(s)
	default:
		panic("no deed: " + d)
	}
}

func (m *model) expire() Result {
	was := m.state
	i := slices.Index([]int{2, 4, 5, 7}, m.state)
	switch {
	case i < 0:
	case m.cc >= m.most:
		m.report('O')
		if was == stateOf("Leaving") {
			m.tell(event.Signal{Kind: event.ReleaseConf})
		} else {
			m.unit("END", m.sq, true, "")
			m.tell(event.Signal{Kind: event.ReleaseInd, Self: true})
		}
		m.state, m.out.Timer = stateOf("Idle"), Stops
	default:
		m.cc++
		m.unit(strings.Fields("BGN END RS ER")[i], m.sq, false, m.data)
		m.out.Timer = Starts
	}
	return m.end(was)
}

func (m *model) fail(code byte) Result {
	was := m.state
	if was == stateOf("Ready") {
		m.report(code)
		m.begin("ER", "Recovering", "")
	}
	return m.end(was)
}

func (m *model) silent() Result {
	was := m.state
	if was == stateOf("Ready") {
		m.report('P')
		m.unit("END", m.sq, true, "")
		m.tell(event.Signal{Kind: event.ReleaseInd, Self: true})
		m.state = stateOf("Idle")
	}
	return m.end(was)
}

func (m *model) vars() Vars {
	return Vars{State: m.state, SQ: m.sq, Peer: m.peer, CC: m.cc, MS: m.ms}
}

// conn answers a connection that is just like the model.
func (m *model) conn() *Conn {
	return &Conn{most: m.most, credit: m.credit, state: m.state, sq: m.sq, peer: m.peer, ms: m.ms, cc: m.cc, data: m.data}
}

// same holds what a call brought, and what the connection is then, against the model.
func same(t *testing.T, what string, c *Conn, m *model, got, want Result) {
	t.Helper()
	if !alike(got, want) {
		t.Fatalf("%s:\n%+v, not\n%+v", what, got, want)
	}
	if c.Vars() != m.vars() {
		t.Fatalf("%s: %+v, not %+v", what, c.Vars(), m.vars())
	}
}

// alike asks whether two results are the same; a list may be nil.
func alike(a, b Result) bool {
	if !slices.Equal(a.Signals, b.Signals) || !slices.EqualFunc(a.Units, b.Units, func(p, q pdu.PDU) bool { return reflect.DeepEqual(p, q) }) {
		return false
	}
	a.Signals, a.Units, b.Signals, b.Units = nil, nil, nil, nil
	return reflect.DeepEqual(a, b)
}

// The table is taken to pieces without a rest: each line has a unit, states, and deeds that are.
func TestModel(t *testing.T) {
	for _, x := range lines() {
		word, _, _ := strings.Cut(x.unit, ",")
		if kindOf(word) == 0 || x.states != "" && x.states != "else" && !slices.ContainsFunc([]int{1, 2, 3, 4, 5, 6, 7, 8, 9, 10}, x.in) {
			t.Errorf("the line %+v", x)
		}
		for _, d := range x.deeds {
			newModel(Config{}).deed(d, pdu.PDU{})
			if to, is := strings.CutPrefix(d, "to "); is && stateOf(to) == 0 {
				t.Errorf("the line %+v", x)
			}
		}
	}
	if n := fmt.Sprint(len(lines())); n != "25" {
		t.Errorf("%s lines", n)
	}
}
