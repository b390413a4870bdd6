package node

import (
	"polliwog/api"
	"polliwog/pdu"
	"polliwog/ring"
)

// Next answers what goes out next; false: nothing does.
func (n *Node) Next() (pdu.PDU, bool) {
	for _, row := range [...]*ring.Ring[pdu.PDU]{n.control, n.units} {
		if u, code := row.Take(); code == api.OK {
			return u, true
		}
	}
	if !n.ready() {
		return pdu.PDU{}, false
	}
	if n.statDue {
		return n.stat(), true
	}
	if l, r, mr, ok := n.recv.Gap(); ok {
		return pdu.PDU{Kind: pdu.USTAT, N: r, MR: mr, List: l}, true
	}
	if n.pollDue || n.send.Due() {
		return n.poll(), true
	}
	if number, m, _, ok := n.send.Next(); ok {
		return pdu.PDU{Kind: pdu.SD, N: number, Data: m}, true
	}
	return pdu.PDU{}, false
}

// stat answers the status that is due, which isn't any more.
func (n *Node) stat() pdu.PDU {
	l, r, mr := n.recv.Stat()
	u := pdu.PDU{Kind: pdu.STAT, N: r, PS: n.statFor, MR: mr, List: l}
	n.statDue, n.statFor = false, 0
	return u
}

// poll answers a new poll; none is due any more.
func (n *Node) poll() pdu.PDU {
	ps, next := n.send.Poll()
	n.pollDue = false
	n.pace.Polled(n.send.Idle())
	return pdu.PDU{Kind: pdu.POLL, N: next, PS: ps}
}
