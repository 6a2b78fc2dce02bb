package stack

import (
	"slices"

	"blockyard/api"
	"blockyard/arp"
	"blockyard/conn"
	"blockyard/ether"
	"blockyard/icmp"
	"blockyard/ipv4"
	"blockyard/seg"
)

// firstTtl is the Ttl of all that is sent.
const firstTtl = 64

// asks is the Op of a packet that asks who has an address.
const asks = 1

// flush lets the connections' segments go out, and those connections go that are gone: what they sent last goes out ahead of that.
func (s *Stack) flush() {
	if s.none() {
		return
	}
	for _, l := range s.links {
		for _, x := range l.conn.Out() {
			s.sendSeg(l.other.ip, x)
		}
	}
	s.links = slices.DeleteFunc(s.links, func(l link) bool { return l.conn.State() == conn.Gone })
}

func (s *Stack) sendSeg(to api.IP, x api.Seg) {
	b, e := seg.Bytes(x, s.net.IP, to)
	if e == api.OK {
		s.send(to, api.ProtoTcp, b)
	}
}

func (s *Stack) sendIcmp(to api.IP, m api.Icmp) {
	b, e := icmp.Bytes(m)
	if e == api.OK {
		s.send(to, api.ProtoIcmp, b)
	}
}

// send sends a packet. If it isn't known where it should go it is lost, and that is asked, so that the next one may go.
func (s *Stack) send(to api.IP, proto int, data string) {
	p := api.Packet{Id: int(s.nextId), From: s.net.IP, To: to, Proto: proto, Ttl: firstTtl, Data: data}
	s.nextId++
	mac, ok := s.cache.Find(to)
	if !ok {
		s.sendArp(ether.Everybody(), ask(s.net, to))
		return
	}
	b, e := ipv4.Bytes(p)
	if e == api.OK {
		s.sendFrame(mac, api.TypeIP, b)
	}
}

// ask is the packet by which n asks who has ip.
func ask(n api.Net, ip api.IP) api.Arp {
	return api.Arp{Op: asks, Mac: n.Mac, IP: n.IP, ToIP: ip}
}

func (s *Stack) sendArp(to api.Mac, a api.Arp) {
	b, e := arp.Bytes(a)
	if e == api.OK {
		s.sendFrame(to, api.TypeArp, b)
	}
}

func (s *Stack) sendFrame(to api.Mac, kind int, data string) {
	b, e := ether.Bytes(api.Frame{To: to, From: s.net.Mac, Type: kind, Data: data})
	if e == api.OK {
		s.out = append(s.out, b)
	}
}
