package conn

import (
	"polliwog/event"
	"polliwog/pdu"
	"polliwog/rules"
	"polliwog/seq"
)

// making is a call in the making: its connection, and what it brings.
type making struct {
	*Conn
	out Result
}

// bring does what a call does, and answers what it brings.
func (c *Conn) bring(do func(*making)) Result {
	was := c.state
	m := making{Conn: c}
	do(&m)
	m.out.Ends = was == rules.Ready && (m.state != rules.Ready || m.out.Begins)
	if asks(m.state) == 0 {
		m.data = ""
	}
	return m.out
}

// request does what a user may ask.
func (m *making) request(kind int, data string) {
	switch kind {
	case event.Establish:
		m.begin(rules.Outgoing, data)
	case event.Accept:
		m.send(pdu.BGAK, m.peer)
		m.ready()
	case event.Release:
		m.leave(data)
	case event.Resync:
		m.begin(rules.Resyncing, data)
	case event.Resynced:
		m.send(pdu.RSAK, m.peer)
		m.ready()
	case event.Recovered:
		// In Answered the other end has been answered already.
		if m.state == rules.Recovered {
			m.send(pdu.ERAK, m.peer)
		}
		m.ready()
	}
}

// leave ends the connection, as the user asks, or doesn't let it come to be.
func (m *making) leave(data string) {
	if m.state == rules.Incoming {
		m.put(pdu.PDU{Kind: pdu.BGREJ, SQ: m.peer, Data: data})
		m.state = rules.Idle
		return
	}
	m.state, m.cc, m.data = rules.Leaving, 1, data
	m.ask()
}

// receive does with a unit what the rules say.
func (m *making) receive(p pdu.PDU) {
	switch rules.Of(m.state, p.Kind) {
	case rules.Handle:
		m.handle(p)
	case rules.Wrong:
		m.report(rules.Letter(p.Kind))
	case rules.Refuse:
		m.report(rules.Letter(p.Kind))
		m.end()
	case rules.Fall:
		m.report(rules.Letter(p.Kind))
		m.released(true, "")
		m.stop(rules.Idle)
	}
}

// handle does with a unit what its kind, and its SQ, ask for.
func (m *making) handle(p pdu.PDU) {
	switch p.Kind {
	case pdu.BGN, pdu.RS, pdu.ER:
		if p.SQ == m.peer {
			m.hearOld(p)
			return
		}
		m.peer, m.ms = p.SQ, p.N
		m.hearNew(p)
	case pdu.END:
		m.hearEnd(p)
	case pdu.BGAK, pdu.RSAK, pdu.ERAK, pdu.BGREJ, pdu.ENDAK:
		if p.SQ == m.sq {
			m.hearAnswer(p)
		}
	}
}

// hearOld answers again what was answered, as the answer may be lost.
func (m *making) hearOld(p pdu.PDU) {
	switch {
	case p.Kind == pdu.BGN && m.state == rules.Idle:
		m.send(pdu.BGREJ, p.SQ)
	case p.Kind == pdu.BGN && m.within(rules.Resyncing, rules.Ready):
		m.send(pdu.BGAK, p.SQ)
	case p.Kind == pdu.RS && m.within(rules.Recovering, rules.Ready):
		m.send(pdu.RSAK, p.SQ)
	case p.Kind == pdu.ER && (m.state == rules.Answered || m.state == rules.Ready):
		m.send(pdu.ERAK, p.SQ)
	}
}

// hearNew takes what the other end begins.
func (m *making) hearNew(p pdu.PDU) {
	switch p.Kind {
	case pdu.BGN:
		m.hearBGN(p)
	case pdu.RS:
		m.hearRS(p)
	case pdu.ER:
		m.hearER(p)
	}
}

// hearBGN takes the beginning of a connection, whatever there is of one ahead.
func (m *making) hearBGN(p pdu.PDU) {
	switch m.state {
	case rules.Outgoing:
		m.send(pdu.BGAK, p.SQ)
		m.tell(event.Signal{Kind: event.EstablishConf})
		m.ready()
		return
	case rules.Idle:
		m.state = rules.Incoming
	case rules.Leaving:
		m.tell(event.Signal{Kind: event.ReleaseConf})
		m.stop(rules.Incoming)
	default:
		m.released(false, "")
		m.stop(rules.Incoming)
	}
	m.tell(event.Signal{Kind: event.EstablishInd, Data: p.Data})
}

// hearRS takes the beginning of a resynchronisation.
func (m *making) hearRS(p pdu.PDU) {
	switch {
	case m.state == rules.Resyncing:
		m.send(pdu.RSAK, p.SQ)
		m.tell(event.Signal{Kind: event.ResyncConf})
		m.ready()
	case m.within(rules.Recovering, rules.Ready):
		m.tell(event.Signal{Kind: event.ResyncInd, Data: p.Data})
		m.stop(rules.Resynced)
	}
}

// hearER takes the beginning of a recovery.
func (m *making) hearER(p pdu.PDU) {
	switch m.state {
	case rules.Recovering:
		m.send(pdu.ERAK, p.SQ)
		m.tell(event.Signal{Kind: event.RecoverInd})
		m.stop(rules.Answered)
	case rules.Answered:
		m.send(pdu.ERAK, p.SQ)
	case rules.Ready:
		m.tell(event.Signal{Kind: event.RecoverInd})
		m.state = rules.Recovered
	}
}

// hearEnd takes the end of the connection.
func (m *making) hearEnd(p pdu.PDU) {
	m.send(pdu.ENDAK, p.SQ)
	switch {
	case m.state == rules.Incoming || m.within(rules.Resyncing, rules.Ready):
		m.released(p.Self, p.Data)
		m.stop(rules.Idle)
	case m.state == rules.Leaving:
		m.left()
	}
}

// hearAnswer takes an answer that fits.
func (m *making) hearAnswer(p pdu.PDU) {
	switch {
	case p.Kind == pdu.BGAK && m.state == rules.Outgoing:
		m.ms = p.N
		m.tell(event.Signal{Kind: event.EstablishConf})
		m.ready()
	case p.Kind == pdu.BGREJ && m.state == rules.Outgoing:
		m.released(false, p.Data)
		m.stop(rules.Idle)
	case (p.Kind == pdu.BGREJ || p.Kind == pdu.ENDAK) && m.state == rules.Leaving:
		m.left()
	case p.Kind == pdu.RSAK && m.state == rules.Resyncing:
		m.ms = p.N
		m.tell(event.Signal{Kind: event.ResyncConf})
		m.ready()
	case p.Kind == pdu.ERAK && m.state == rules.Recovering:
		m.ms = p.N
		m.tell(event.Signal{Kind: event.RecoverInd})
		m.stop(rules.Answered)
	}
}

// left takes it that the other end has left, too.
func (m *making) left() {
	m.tell(event.Signal{Kind: event.ReleaseConf})
	m.stop(rules.Idle)
}

// giveUp ends what the other end didn't answer.
func (m *making) giveUp() {
	m.report(gaveUp)
	if m.state == rules.Leaving {
		m.left()
		return
	}
	m.end()
	m.released(true, "")
	m.stop(rules.Idle)
}

// begin lets the unit of a state go out for the first time, with an SQ of its own.
func (m *making) begin(state int, data string) {
	m.sq = (m.sq + 1) % roundSQ
	m.state, m.cc, m.data = state, 1, data
	m.ask()
}

// asks answers the kind of the unit that goes out in a state, till it is answered; 0: none does.
func asks(state int) int {
	switch state {
	case rules.Outgoing:
		return pdu.BGN
	case rules.Leaving:
		return pdu.END
	case rules.Resyncing:
		return pdu.RS
	case rules.Recovering:
		return pdu.ER
	}
	return 0
}

// ask lets the unit of this state go out, and waits for its answer.
func (m *making) ask() {
	p := pdu.PDU{Kind: asks(m.state), SQ: m.sq, Data: m.data}
	p.N = m.grant(p.Kind)
	m.put(p)
	m.out.Timer = Starts
}

// grant answers the credit, if units of a kind have it.
func (m *making) grant(kind int) seq.Num {
	switch kind {
	case pdu.BGN, pdu.BGAK, pdu.RS, pdu.RSAK, pdu.ER, pdu.ERAK:
		return m.credit
	}
	return 0
}

// ready lets an epoch begin.
func (m *making) ready() {
	m.stop(rules.Ready)
	m.out.Begins, m.out.MS = true, m.ms
}

// stop comes to a state in which no answer is waited for.
func (m *making) stop(state int) {
	m.state = state
	m.out.Timer = Stops
}

// within asks whether the state is one of those from one to another one.
func (m *making) within(first, last int) bool {
	return first <= m.state && m.state <= last
}

// send lets an answer go out.
func (m *making) send(kind, sq int) {
	m.put(pdu.PDU{Kind: kind, SQ: sq, N: m.grant(kind)})
}

// end lets an END go out that is this end's own doing; its answer isn't waited for.
func (m *making) end() {
	m.put(pdu.PDU{Kind: pdu.END, SQ: m.sq, Self: true})
}

// put lets a unit go out behind the other ones.
func (m *making) put(p pdu.PDU) {
	m.out.Units = append(m.out.Units, p)
}

// released tells that the connection ends, by whom, and with which data.
func (m *making) released(self bool, data string) {
	m.tell(event.Signal{Kind: event.ReleaseInd, Self: self, Data: data})
}

// report tells what is wrong.
func (m *making) report(code byte) {
	m.tell(event.Signal{Kind: event.Report, Code: code})
}

// tell tells a signal behind the other ones.
func (m *making) tell(s event.Signal) {
	m.out.Signals = append(m.out.Signals, s)
}
