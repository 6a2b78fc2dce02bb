package conn

import (
	"blockyard/api"
	"blockyard/seqn"
)

// send sends what s says. Each segment tells what is waited for, and how much more may come.
func (c *Conn) send(s api.Seg) {
	s.From, s.To = c.from, c.to
	s.Flags |= api.Ack
	s.Ack = c.want()
	s.Window = c.in.Window()
	c.told = s.Window
	c.sent = append(c.sent, s)
}

// want is the number that is waited for: the other end's Fin has one too.
func (c *Conn) want() uint32 {
	if c.eof {
		return c.in.Next() + 1
	}
	return c.in.Next()
}

func (c *Conn) sendSyn() {
	c.send(api.Seg{Seq: c.iss, Flags: api.Syn, MSS: api.MSS})
}

// acknowledge sends a segment without anything.
func (c *Conn) acknowledge() {
	c.send(api.Seg{Seq: c.nxt})
}

// sendProbe sends a segment without anything that lies ahead of what the other end waits for: so it is answered.
func (c *Conn) sendProbe() {
	c.send(api.Seg{Seq: c.una - 1})
}

func (c *Conn) sendRst() {
	c.send(api.Seg{Seq: c.top, Flags: api.Rst})
}

// refuse answers a segment that acknowledges what was never sent, when nothing is agreed on yet: it has nothing but a number that is right for the one who sent that. It tells no Window.
func (c *Conn) refuse(s api.Seg) {
	c.sent = append(c.sent, api.Seg{From: c.from, To: c.to, Seq: s.Ack, Flags: api.Rst})
}

// flush sends all for which the other end has room.
func (c *Conn) flush() {
	switch c.state {
	case Open, FinSent, Both, Left, LastOut:
	default:
		return
	}
	for c.room() > 0 {
		if !c.sendData(c.room()) {
			break
		}
	}
	if c.room() > 0 {
		c.sendFin()
	}
	if c.nxt == c.una && c.waits() && c.left == 0 {
		c.left = c.clock.Wait()
	}
}

// room is how far the other end's window reaches behind what is under way. (A window below 0, which no other end can tell in bytes, has none.)
func (c *Conn) room() int {
	return max(0, c.window) - seqn.Ahead(c.una, c.nxt)
}

// waits tells whether something is next, for which there was no room.
func (c *Conn) waits() bool {
	return c.out.Get(c.nxt, 1) != "" || c.finIsNext()
}

func (c *Conn) finIsNext() bool {
	return c.closed && c.nxt == c.out.End()
}

// sendData sends bytes from nxt on, at most n, as many as a segment may have. It tells whether there was one.
func (c *Conn) sendData(n int) bool {
	data := c.out.Get(c.nxt, min(n, c.mss))
	if data == "" {
		return false
	}
	c.send(api.Seg{Seq: c.nxt, Flags: api.Psh, Data: data})
	c.moveOn(len(data))
	return true
}

// sendFin sends the Fin, if it is what comes next.
func (c *Conn) sendFin() {
	if !c.finIsNext() {
		return
	}
	c.send(api.Seg{Seq: c.nxt, Flags: api.Fin})
	c.moveOn(1)
}

// moveOn lets nxt go over n numbers that were sent. Only what is sent for the first time is measured: of anything else none could say which sending an answer is for.
func (c *Conn) moveOn(n int) {
	c.nxt += uint32(n)
	if seqn.Less(c.top, c.nxt) {
		c.top = c.nxt
		if !c.measure.runs {
			c.measure = measure{runs: true, end: c.nxt}
		}
	}
	if c.left == 0 {
		c.left = c.clock.Wait()
	}
}
