package node

import (
	"polliwog/api"
	"polliwog/event"
	"polliwog/pdu"
	"polliwog/rules"
	"polliwog/timer"
)

// Reports that this layer makes.
const (
	badPoll    = 'Q'
	badStat    = 'R' // of a poll that can't be
	badList    = 'S'
	badGap     = 'T'
	garbled    = 'U'
	again      = 'V'
	creditGone = 'W'
	creditBack = 'X'
)

// report answers a Report alone.
func report(code byte) event.Signal {
	return event.Signal{Kind: event.Report, Code: code}
}

// Request does what a user asks, and answers what is told.
func (n *Node) Request(r event.Request) ([]event.Signal, api.Errno) {
	if code := r.Check(); code != api.OK {
		return nil, code
	}
	if !rules.May(n.conn.Vars().State, r.Kind) {
		return nil, api.ErrState
	}
	l, code := n.ask(r)
	if code != api.OK {
		// What is refused changes nothing, what is known of credit neither.
		return nil, code
	}
	return n.lookAtCredit(l), api.OK
}

// ask does a request that may be made.
func (n *Node) ask(r event.Request) ([]event.Signal, api.Errno) {
	switch r.Kind {
	case event.Data:
		return nil, n.put(r.Data)
	case event.Unit:
		return nil, n.units.Put(pdu.PDU{Kind: pdu.UD, Data: r.Data})
	case event.Manage:
		return nil, n.units.Put(pdu.PDU{Kind: pdu.MD, Data: r.Data})
	case event.Take:
		if n.ready() {
			n.recv.Take(r.N)
		}
		return nil, api.OK
	case event.Retrieve:
		l := each(event.Retrieved, n.left)
		n.left = nil
		return l, api.OK
	}
	result, code := n.conn.Request(r.Kind, r.Data)
	if code != api.OK {
		return nil, code
	}
	return n.bring(result), api.OK
}

// put lets a message wait; ErrFull: as many wait as may.
func (n *Node) put(m string) api.Errno {
	code := n.send.Put(m)
	if code == api.OK {
		n.pace.Busy()
	}
	return code
}

// each answers a signal of a kind for each message.
func each(kind int, messages []string) []event.Signal {
	var l []event.Signal
	for _, m := range messages {
		l = append(l, event.Signal{Kind: kind, Data: m})
	}
	return l
}

// Receive takes a unit of the other end, and answers what is told.
func (n *Node) Receive(u pdu.PDU) []event.Signal {
	return n.lookAtCredit(n.hear(u))
}

// hear does with a unit what its kind asks for.
func (n *Node) hear(u pdu.PDU) []event.Signal {
	switch u.Kind {
	case pdu.UD:
		return each(event.UnitInd, []string{u.Data})
	case pdu.MD:
		return each(event.ManageInd, []string{u.Data})
	}
	if n.ready() {
		switch u.Kind {
		case pdu.SD:
			return each(event.DataInd, n.recv.Data(u.N, u.Data))
		case pdu.POLL:
			return n.hearPoll(u)
		case pdu.STAT:
			return n.hearStat(u)
		case pdu.USTAT:
			return n.hearUstat(u)
		}
	}
	return n.bring(n.conn.Receive(u))
}

// hearPoll takes how far the other end has come; a status answers it.
func (n *Node) hearPoll(u pdu.PDU) []event.Signal {
	if n.recv.Poll(u.N) != api.OK {
		return n.fail(badPoll)
	}
	n.statDue, n.statFor = true, u.PS
	return nil
}

// hearStat takes what a status says is missing.
func (n *Node) hearStat(u pdu.PDU) []event.Signal {
	count, code := n.send.Stat(u.N, u.MR, u.PS, u.List)
	switch code {
	case api.OK:
		n.pace.Answered(n.send.Idle())
		return goAgain(count)
	case api.ErrStat:
		return n.fail(badStat)
	}
	return n.fail(badList)
}

// hearUstat takes a gap that the other end has seen.
func (n *Node) hearUstat(u pdu.PDU) []event.Signal {
	count, code := n.send.Ustat(u.N, u.MR, u.List)
	if code != api.OK {
		return n.fail(badGap)
	}
	return goAgain(count)
}

// goAgain tells how many numbers are to go again, if any are.
func goAgain(count int) []event.Signal {
	if count == 0 {
		return nil
	}
	return []event.Signal{{Kind: event.Report, Code: again, N: count}}
}

// fail begins to recover, as what came can't be.
func (n *Node) fail(code byte) []event.Signal {
	return n.bring(n.conn.Fail(code))
}

// Garbled tells that what came was no unit.
func (n *Node) Garbled() []event.Signal {
	return []event.Signal{report(garbled)}
}

// Tick lets a tick go by, and answers what is told.
func (n *Node) Tick() []event.Signal {
	var l []event.Signal
	for _, t := range n.pace.Tick() {
		switch {
		case t == timer.CC:
			l = append(l, n.bring(n.conn.Expire())...)
		case t == timer.Silent:
			l = append(l, n.bring(n.conn.Silent())...)
		case n.pace.Asks(t):
			n.pollDue = n.ready()
		}
	}
	return n.lookAtCredit(l)
}

// lookAtCredit adds to what a call tells, if credit began, or ceased, to be lacking.
func (n *Node) lookAtCredit(l []event.Signal) []event.Signal {
	lacked := n.lacks
	n.lacks = n.ready() && n.send.Lacks()
	switch {
	case n.lacks && !lacked:
		return append(l, report(creditGone))
	case lacked && !n.lacks && n.ready():
		return append(l, report(creditBack))
	}
	return l
}
