package stack

import (
	"slices"

	"blockyard/api"
	"blockyard/arp"
	"blockyard/conn"
	"blockyard/ether"
	"blockyard/icmp"
	"blockyard/ipv4"
	"blockyard/seg"
)

// notSpoken is the code of a message that says that a packet's protocol is not spoken here.
const notSpoken = 2

// take takes a frame in. What takes something in here, and below, answers false, if the frame is dropped for it.
func (s *Stack) take(frame string, draw uint32) bool {
	f, e := ether.Read(frame)
	if e != api.OK || !ether.For(f, s.net.Mac) {
		return false
	}
	switch f.Type {
	case api.TypeArp:
		return s.takeArp(f.Data)
	case api.TypeIP:
		return s.takePiece(f, draw)
	}
	return false
}

func (s *Stack) takeArp(data string) bool {
	a, e := arp.Read(data)
	if e != api.OK {
		return false
	}
	// Of those that speak to others only what is known already is kept up, or the cache would fill with all that is on the wire.
	_, known := s.cache.Find(a.IP)
	if known || a.ToIP == s.net.IP {
		s.cache.Learn(a.IP, a.Mac)
	}
	if answer, ok := arp.Answer(a, s.net.IP, s.net.Mac); ok {
		s.sendArp(a.Mac, answer)
	}
	return true
}

// takePiece takes in the packet that a frame has, which may be a piece of one.
func (s *Stack) takePiece(f api.Frame, draw uint32) bool {
	p, e := ipv4.Read(f.Data)
	if e != api.OK || p.To != s.net.IP || p.From == s.net.IP {
		return false
	}
	s.cache.Learn(p.From, f.From)
	whole, ok := s.joiner.Put(p)
	if !ok {
		return true
	}
	switch whole.Proto {
	case api.ProtoIcmp:
		return s.takeMessage(whole)
	case api.ProtoTcp:
		return s.takeSegment(whole, draw)
	}
	// Nobody is told of what went to all, who would all answer, nor of a packet in pieces, whose beginning this frame need not have.
	if p.At == 0 && !p.More && f.To != ether.Everybody() {
		s.sendIcmp(p.From, icmp.Unreachable(notSpoken, f.Data))
	}
	return false
}

func (s *Stack) takeMessage(p api.Packet) bool {
	m, e := icmp.Read(p.Data)
	echo, ok := icmp.Echo(m)
	if e != api.OK || !ok {
		return false
	}
	s.sendIcmp(p.From, echo)
	return true
}

func (s *Stack) takeSegment(p api.Packet, draw uint32) bool {
	x, e := seg.Read(p.Data, p.From, p.To)
	if e != api.OK {
		return false
	}
	other := end{ip: p.From, port: x.From}
	if x.To == s.net.Port {
		if c := s.connTo(other); c != nil {
			c.In(x)
			return true
		}
		if begins(x) {
			return s.begin(other, x, draw)
		}
	}
	if x.Flags&api.Rst == 0 {
		s.sendSeg(other.ip, refusal(x))
	}
	return true
}

// begins tells whether a connection may begin with x.
func begins(x api.Seg) bool {
	return x.Flags&(api.Syn|api.Ack|api.Rst|api.Fin) == api.Syn
}

// refusal is what is told to who sent x to a connection that is not there. It has the number that the sender waits for, or it would not be believed.
func refusal(x api.Seg) api.Seg {
	if x.Flags&api.Ack != 0 {
		return api.Seg{From: x.To, To: x.From, Seq: x.Ack, Flags: api.Rst}
	}
	return api.Seg{From: x.To, To: x.From, Ack: x.Seq + uint32(seg.Len(x)), Flags: api.Rst | api.Ack}
}

// connTo is the connection whose other end that is; nil, if it is not there.
func (s *Stack) connTo(other end) *conn.Conn {
	for _, l := range s.links {
		if l.other == other {
			return l.conn
		}
	}
	return nil
}

// begin lets a connection begin, if there is room for one more that waits to be opened, and for one more at all.
func (s *Stack) begin(other end, syn api.Seg, draw uint32) bool {
	if s.waiting() >= api.Backlog || !s.makeRoom() {
		return false
	}
	c, _ := conn.New(syn, draw, s.net.Tcp) // it may be: this is a Syn alone, and New tried how it waits
	s.begun++
	s.links = append(s.links, link{id: s.begun, other: other, conn: c})
	return true
}

// waiting is how many connections have nothing but a Syn.
func (s *Stack) waiting() int {
	n := 0
	for _, l := range s.links {
		if l.conn.State() == conn.SynIn {
			n++
		}
	}
	return n
}

// makeRoom tells whether one more connection may be there. If there are as many as may be, the first one that lingers goes for it: it has done all that it had to do.
func (s *Stack) makeRoom() bool {
	if len(s.links) < api.MaxConns {
		return true
	}
	i := slices.IndexFunc(s.links, func(l link) bool { return l.conn.State() == conn.Linger })
	if i < 0 {
		return false
	}
	s.links = slices.Delete(s.links, i, i+1)
	return true
}
