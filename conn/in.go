package conn

import (
	"blockyard/api"
	"blockyard/seg"
	"blockyard/seqn"
)

// In lets a segment come.
func (c *Conn) In(s api.Seg) {
	if c.State() == Gone {
		return
	}
	switch {
	case !c.counts(s):
		if !has(s, api.Rst) {
			c.acknowledge()
		}
	case has(s, api.Rst):
		c.takeRst(s)
	case has(s, api.Syn):
		c.acknowledge()
	case !has(s, api.Ack):
	case c.state == SynIn && s.Ack != c.iss+1:
		c.refuse(s)
	case c.neverSent(s.Ack):
		c.acknowledge()
	default:
		c.take(s)
	}
}

// counts tells whether s may count. A shut window is taken as one of 1, so that whoever asks with one byte whether it is open tells his news too.
func (c *Conn) counts(s api.Seg) bool {
	window := c.in.Window()
	if window == 0 {
		window = 1
	}
	return seqn.May(s.Seq, seg.Len(s), c.want(), window)
}

// takeRst believes an Rst that has the very number that is waited for. Who can only guess it is answered.
func (c *Conn) takeRst(s api.Seg) {
	if s.Seq != c.want() {
		c.acknowledge()
		return
	}
	c.state = Gone
	c.reset = true
}

// neverSent tells whether a number that is acknowledged lies behind all that was sent. An old one does not.
func (c *Conn) neverSent(ack uint32) bool {
	return !seqn.Less(ack, c.una) && seqn.Less(c.top, ack)
}

// take takes in what a segment tells that may count, and answers it.
func (c *Conn) take(s api.Seg) {
	if c.state == SynIn {
		c.open(s)
	}
	if seqn.Less(c.una, s.Ack) {
		c.moveUna(s.Ack)
	}
	if c.tellsWindow(s) {
		c.takeWindow(s)
	}
	if c.closed && c.una == c.out.End()+1 {
		c.finIsAcknowledged()
	}
	c.takeData(s)
	c.takeFin(s)
	before := len(c.sent)
	c.flush()
	if seg.Len(s) > 0 && len(c.sent) == before {
		c.acknowledge()
	}
}

// open lets a connection begin: s acknowledges its Syn.
func (c *Conn) open(s api.Seg) {
	c.state = Open
	if c.closed {
		c.state = FinSent
	}
	c.window = s.Window
	c.teller = numbers{s.Seq, s.Ack}
}

// moveUna takes in that all ahead of ack was acknowledged, for the first time.
func (c *Conn) moveUna(ack uint32) {
	c.una = ack
	upTo := ack
	if seqn.Less(c.out.End(), ack) {
		upTo = c.out.End() // the Fin's number is none of out's
	}
	c.out.Ack(upTo)
	if seqn.Less(c.nxt, c.una) {
		c.nxt = c.una
	}
	if c.measure.runs && !seqn.Less(c.una, c.measure.end) {
		c.clock.Measure(c.measure.age)
		c.measure = measure{}
	}
	c.tries = 0
	c.left = 0
	if c.una != c.top {
		c.left = c.clock.Wait()
	}
}

// tellsWindow tells whether s was sent behind the segment that told the window last, as far as their numbers say.
func (c *Conn) tellsWindow(s api.Seg) bool {
	if seqn.Less(s.Ack, c.una) {
		return false
	}
	return seqn.Less(c.teller.seq, s.Seq) || s.Seq == c.teller.seq && !seqn.Less(s.Ack, c.teller.ack)
}

// takeWindow takes in the other end's window. If it opens, there is nothing to be asked any more.
func (c *Conn) takeWindow(s api.Seg) {
	if c.window == 0 && s.Window != 0 && c.nxt == c.una {
		c.left = 0
	}
	c.window = s.Window
	c.teller = numbers{s.Seq, s.Ack}
}

func (c *Conn) finIsAcknowledged() {
	switch c.state {
	case FinSent:
		c.state = FinDone
	case Both:
		c.beginLinger()
	case LastOut:
		c.state = Gone
	}
}

func (c *Conn) beginLinger() {
	c.state = Linger
	c.linger = c.maxLinger
}

func (c *Conn) takeData(s api.Seg) {
	if c.receives() {
		c.in.Put(s.Seq, s.Data)
	}
}

// takeFin takes in the other end's Fin, as soon as all ahead of it is there.
func (c *Conn) takeFin(s api.Seg) {
	if !has(s, api.Fin) {
		return
	}
	if !c.eof && s.Seq+uint32(len(s.Data)) == c.in.Next() {
		c.finIsHere()
	}
	if c.state == Linger {
		c.linger = c.maxLinger
	}
}

func (c *Conn) finIsHere() {
	c.eof = true
	switch c.state {
	case Open:
		c.state = Left
	case FinSent:
		c.state = Both
	case FinDone:
		c.beginLinger()
	}
}
