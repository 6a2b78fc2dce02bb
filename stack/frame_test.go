package stack_test

import (
	"strings"
	"testing"

	"blockyard/api"
	"blockyard/arp"
	"blockyard/conn"
	"blockyard/ether"
	"blockyard/ipv4"
)

// somebody is one whom nobody knows.
var somebody = host{api.Mac{2, 9, 9, 9, 9, 9}, api.IP{10, 0, 9, 9}}

// otherMac is h with another Mac, as one has who changes his card.
func otherMac(h host) host {
	h.mac[0] ^= 4
	h.mac[5] ^= 0x80
	return h
}

// aged is a stack in whose cache an entry is there for age ticks; c's connection is open, and sends nothing of itself for long.
func aged(t *testing.T, age int) (*lab, *client) {
	t.Helper()
	n := usual()
	n.Age = age
	n.Tcp = api.Tcp{First: 1000, Least: 1000, Most: 1000, Tries: 3, Linger: 5}
	x := labOf(t, n)
	c := x.client(hostOf(1), 7, 1)
	c.open()
	return x, c
}

// wantKnown asks by which Mac c's host is known: what c's connection writes goes there.
func (c *client) wantKnown(h host, at int) {
	c.t.Helper()
	c.Write(c.id, "x")
	c.wantOut(c.segTo(h, c.saidSeg(api.Psh, at, 0, 2048, "x")))
}

// wantUnknown asks whether it is not known at all.
func (c *client) wantUnknown() {
	c.t.Helper()
	c.Write(c.id, "x")
	c.wantOut(c.lostTo(c.host))
}

// Frames

func TestNoFrame(t *testing.T) {
	x := plainly(t)
	ask := x.arpFrom(a, x.n.Mac, 1, x.n.IP)
	for n := range 14 {
		x.drop(ask[:n])
		x.drop(strings.Repeat("\xff", n))
	}
	for _, n := range []int{601, 602, 1000, 65536} {
		x.drop(ask + strings.Repeat("\x00", n-len(ask)))
	}
	x.in(ask+strings.Repeat("\x00", 600-len(ask)), x.answerTo(a))
	x.drop(ask[:14])
}

func TestFramesForOthers(t *testing.T) {
	x := plainly(t)
	c := x.client(a, 7, 1)
	ping := x.icmpFrom(a, api.Icmp{Kind: 8})
	for _, f := range []string{x.arpFrom(a, x.n.Mac, 1, x.n.IP), ping, c.bringsSyn()} {
		for bit := range 48 {
			b := []byte(f)
			b[bit/8] ^= 1 << (bit % 8)
			x.drop(string(b))
		}
		for _, to := range []api.Mac{{}, a.mac, {1, 0, 0x5e, 0, 0, 1}, {255, 255, 255, 255, 255, 254}, {254, 255, 255, 255, 255, 255}} {
			x.drop(string(to[:]) + f[6:])
		}
	}
	everybody := strings.Repeat("\xff", 6)
	x.in(everybody+x.arpFrom(a, x.n.Mac, 1, x.n.IP)[6:], x.answerTo(a))
	x.in(everybody+ping[6:], x.icmpTo(a, api.Icmp{}))
	x.Frame(everybody+c.bringsSyn()[6:], c.mine-1)
	x.wantOut(c.saysSyn())
	x.in(everybody + c.brings(api.Ack, 0, 0, "")[6:])
	x.wantConns(1)
}

func TestFramesOfOtherTypes(t *testing.T) {
	x := plainly(t)
	ask, ping := x.arpFrom(a, x.n.Mac, 1, x.n.IP), x.icmpFrom(a, api.Icmp{Kind: 8})
	for kind := range 65536 {
		for _, f := range []string{ask, ping} {
			if kind%251 != 0 && (kind < 2040 || kind > 2070) && kind&(kind-1) != 0 {
				continue
			}
			s := f[:12] + string([]byte{byte(kind >> 8), byte(kind)}) + f[14:]
			switch {
			case s == ask:
				x.in(s, x.answerTo(a))
			case s == ping:
				x.in(s, x.icmpTo(a, api.Icmp{}))
			default:
				x.drop(s)
			}
		}
	}
}

// Whose From a frame has does not count, but for what is learnt: Arp's answers go to whom the packet names.
func TestFramesFromAnybody(t *testing.T) {
	x := plainly(t)
	for _, from := range []api.Mac{{}, x.n.Mac, ether.Everybody(), somebody.mac} {
		h := host{from, a.ip}
		x.ping(h)
		ask := x.arpFrom(a, x.n.Mac, 1, x.n.IP)
		x.in(ask[:6]+string(from[:])+ask[12:], x.answerTo(a))
	}
}

// Arp

func TestNoArp(t *testing.T) {
	x, c := aged(t, 1000)
	mine := otherMac(c.host)
	ask := x.arpFrom(mine, x.n.Mac, 1, x.n.IP)
	for n := 14; n < len(ask); n++ {
		x.drop(ask[:n])
	}
	for bit := range 48 {
		b := []byte(ask)
		b[14+bit/8] ^= 1 << (bit % 8)
		x.drop(string(b))
	}
	for _, op := range []int{0, 3, 4, 255, 256, 257, 258, 65535} {
		x.drop(ask[:20] + string([]byte{byte(op >> 8), byte(op)}) + ask[22:])
	}
	c.wantKnown(c.host, 0)
}

func TestArpThatAsks(t *testing.T) {
	x := plainly(t)
	for _, to := range []api.Mac{x.n.Mac, ether.Everybody()} {
		x.in(x.arpFrom(a, to, 1, x.n.IP), x.answerTo(a))
		for _, ip := range []api.IP{{}, a.ip, {10, 0, 0, 3}, {11, 0, 0, 2}, {255, 255, 255, 255}} {
			x.in(x.arpFrom(a, to, 1, ip))
		}
	}
	// To which Mac it asks does not count.
	ask := x.arpFrom(a, x.n.Mac, 1, x.n.IP)
	x.in(ask[:32]+string(somebody.mac[:])+ask[38:], x.answerTo(a))
	x.in(ask+"what stands behind", x.answerTo(a))
	// Nor does it whether its own IP is the stack's: one that looks whether an address is taken asks so.
	both := host{somebody.mac, x.n.IP}
	x.in(x.arpFrom(both, x.n.Mac, 1, x.n.IP), x.answerTo(both))
}

func TestArpThatAnswers(t *testing.T) {
	x := plainly(t)
	for _, to := range []api.Mac{x.n.Mac, ether.Everybody()} {
		for _, ip := range []api.IP{x.n.IP, {}, {10, 0, 0, 3}} {
			x.in(x.arpFrom(a, to, 2, ip))
		}
	}
}

// What Arp says is learnt of whom the cache has, and of who speaks to the stack.
func TestArpIsLearnt(t *testing.T) {
	for _, op := range []int{1, 2} {
		for _, toMe := range []bool{true, false} {
			for _, known := range []bool{true, false} {
				x, c := aged(t, 5)
				ip := api.IP{10, 0, 0, 77}
				var want []string
				if toMe {
					ip = x.n.IP
				}
				if !known {
					x.quiet(5)
				}
				mine := otherMac(c.host)
				if toMe && op == 1 {
					want = append(want, x.answerTo(mine))
				}
				x.in(x.arpFrom(mine, ether.Everybody(), op, ip), want...)
				if toMe || known {
					c.wantKnown(mine, 0)
				} else {
					c.wantUnknown()
				}
			}
		}
	}
}

// What is learnt is the packet's Mac, whatever the frame's From is.
func TestArpLearnsThePacketsMac(t *testing.T) {
	x, c := aged(t, 5)
	mine := otherMac(c.host)
	s := x.arpFrom(mine, x.n.Mac, 2, x.n.IP)
	x.in(s[:6] + string(somebody.mac[:]) + s[12:])
	c.wantKnown(mine, 0)
}

// Arp of one who is known makes his entry young, of others it changes nothing of it.
func TestArpKeepsEntriesYoung(t *testing.T) {
	x, c := aged(t, 5)
	x.quiet(4)
	x.in(x.arpFrom(c.host, x.n.Mac, 2, somebody.ip))
	x.quiet(4)
	c.wantKnown(c.host, 0)
	x.in(x.arpFrom(somebody, x.n.Mac, 2, c.ip))
	x.in(x.arpFrom(somebody, x.n.Mac, 2, x.n.IP))
	x.quiet(1)
	c.wantUnknown()
}

// crowd lets eight others be learnt, n of them by Arp to the stack, the rest by Arp to others.
func (x *lab) crowd(n int) {
	x.t.Helper()
	for i := range 8 {
		ip := x.n.IP
		if i >= n {
			ip = api.IP{1, 2, 3, 4}
		}
		x.in(x.arpFrom(hostOf(100+i), ether.Everybody(), 2, ip))
	}
}

func TestCacheIsCrowded(t *testing.T) {
	for n := range 9 {
		x, c := aged(t, 1000)
		x.crowd(n)
		if n < 8 {
			c.wantKnown(c.host, 0)
		} else {
			c.wantUnknown()
		}
	}
}

// One who says that he has the stack's own address is learnt as all others who speak to it: he takes a place.
func TestOwnAddressIsLearnt(t *testing.T) {
	x, c := aged(t, 1000)
	x.in(x.arpFrom(host{somebody.mac, x.n.IP}, x.n.Mac, 2, x.n.IP))
	x.crowd(7)
	c.wantUnknown()
}

// Packets

func TestNoPacket(t *testing.T) {
	x, c := aged(t, 1000)
	mine := otherMac(c.host)
	ping := x.icmpFrom(mine, api.Icmp{Kind: 8, Data: "ping"})
	for n := 14; n < len(ping); n++ {
		x.drop(ping[:n])
	}
	for bit := range 160 {
		b := []byte(ping)
		b[14+bit/8] ^= 1 << (bit % 8)
		x.drop(string(b))
	}
	c.wantKnown(c.host, 0)
	x.in(ping, x.icmpTo(mine, api.Icmp{Data: "ping"}))
	c.wantKnown(mine, 1)
}

// direct is a packet as it is, in a frame to the stack.
func (x *lab) direct(from api.Mac, p api.Packet) string {
	return frameOf(x.n.Mac, from, api.TypeIP, must(ipv4.Bytes(p)))
}

func TestPacketsToOthers(t *testing.T) {
	for _, proto := range []int{api.ProtoIcmp, api.ProtoTcp, 17} {
		x, c := aged(t, 1000)
		mine := otherMac(c.host)
		data := x.icmpFrom(c.host, api.Icmp{Kind: 8})[34:]
		if proto == api.ProtoTcp {
			data = x.tcpBytes(c.host, c.seg(api.Ack, 0, 0, "data"))
		}
		for bit := range 32 {
			to := x.n.IP
			to[bit/8] ^= 1 << (bit % 8)
			x.drop(x.direct(mine.mac, api.Packet{From: c.ip, To: to, Proto: proto, Data: data}))
		}
		x.drop(x.direct(mine.mac, api.Packet{From: c.ip, To: api.IP{255, 255, 255, 255}, Proto: proto, Data: data}))
		x.drop(x.direct(mine.mac, api.Packet{From: c.ip, To: c.ip, Proto: proto, Data: data}))
		x.drop(x.direct(mine.mac, api.Packet{From: c.ip, To: somebody.ip, At: 8, Proto: proto, Data: data}))
		c.wantKnown(c.host, 0)
		if n := x.Ready(1); n != 0 {
			t.Errorf("Ready: %d", n)
		}
	}
}

func TestPacketsFromItself(t *testing.T) {
	x := plainly(t)
	me := host{somebody.mac, x.n.IP}
	x.drop(x.icmpFrom(me, api.Icmp{Kind: 8}))
	x.drop(x.client(me, 7, 1).bringsSyn())
	x.drop(x.packetFrom(me, api.Packet{Proto: 17, Data: "udp"}))
	x.drop(x.packetFrom(me, api.Packet{Proto: 17, Data: "eight ..", More: true}))
	for _, to := range []api.IP{somebody.ip, {}, {255, 255, 255, 255}} {
		x.drop(x.direct(me.mac, api.Packet{From: x.n.IP, To: to, Proto: 17, Data: "udp"}))
	}
	x.wantConns()
	x.wantState(1, conn.Gone)
}

// It is not learnt either: it takes no place in the cache.
func TestPacketsFromItselfAreNotLearnt(t *testing.T) {
	x, c := aged(t, 1000)
	x.drop(x.icmpFrom(host{somebody.mac, x.n.IP}, api.Icmp{Kind: 8}))
	x.crowd(7)
	c.wantKnown(c.host, 0)
}

// What a packet to the stack tells of its sender is learnt, though it is dropped for what it has inside, or is a piece.
func TestPacketsAreLearnt(t *testing.T) {
	for _, known := range []bool{true, false} {
		for _, b := range []struct {
			p     api.Packet
			drops int
		}{
			{api.Packet{Proto: api.ProtoIcmp, Data: "no message"}, 1},
			{api.Packet{Proto: api.ProtoTcp, Data: "no segment"}, 1},
			{api.Packet{Proto: 17, At: 80, Data: "a piece"}, 0},
			{api.Packet{Proto: api.ProtoTcp, More: true, Data: "eight .."}, 0},
			{api.Packet{Proto: api.ProtoTcp, At: 1200, Data: "beyond"}, 0},
		} {
			x, c := aged(t, 5)
			if !known {
				x.quiet(5)
			}
			mine := otherMac(c.host)
			x.Frame(x.packetFrom(mine, b.p), 0)
			x.drops += b.drops
			x.wantOut()
			c.wantKnown(mine, 0)
		}
	}
}

func TestPacketsKeepEntriesYoung(t *testing.T) {
	x, c := aged(t, 5)
	x.quiet(4)
	x.ping(c.host)
	x.quiet(4)
	c.wantKnown(c.host, 0)
	x.ping(somebody)
	x.quiet(1)
	c.wantUnknown()
	x.ping(c.host)
	c.wantKnown(c.host, 2)
}

// What stands behind a packet in its frame, its options, its Ttl and its Id do not count.
func TestPacketsOfAllKinds(t *testing.T) {
	x := plainly(t)
	echo := x.icmpFrom(a, api.Icmp{Kind: 8, Data: "ping"})
	x.in(echo+"behind", x.icmpTo(a, api.Icmp{Data: "ping"}))
	data := echo[34:]
	for _, p := range []api.Packet{{}, {Ttl: 1}, {Ttl: 255, Id: 65535}, {Id: 1}} {
		p.Proto, p.Data = api.ProtoIcmp, data
		x.in(x.packetFrom(a, p), x.icmpTo(a, api.Icmp{Data: "ping"}))
	}
	for units := 5; units <= 15; units++ {
		x.in(withOptions(echo, units), x.icmpTo(a, api.Icmp{Data: "ping"}))
	}
}

// withOptions is a frame whose packet has a longer head.
func withOptions(frame string, units int) string {
	head := []byte(frame[14:34] + strings.Repeat("\x01", 4*units-20))
	all := len(head) + len(frame) - 34
	head[0] = byte(64 + units)
	head[2], head[3] = byte(all>>8), byte(all)
	head[10], head[11] = 0, 0
	sum := ipv4.Sum(string(head))
	head[10], head[11] = byte(sum>>8), byte(sum)
	return frame[:14] + string(head) + frame[34:]
}

// asks is what the stack asks, when it sends to whom it does not know.
func TestItAsksAsItself(t *testing.T) {
	x, c := aged(t, 1)
	x.quiet(1)
	x.Write(1, "x")
	l := x.Out()
	if len(l) != 1 {
		t.Fatalf("Out: %s", told(l))
	}
	f, _ := ether.Read(l[0])
	got, e := arp.Read(f.Data)
	want := api.Arp{Op: 1, Mac: x.n.Mac, IP: x.n.IP, ToMac: api.Mac{}, ToIP: c.ip}
	if e != api.OK || got != want || f.To != ether.Everybody() || f.From != x.n.Mac || f.Type != api.TypeArp {
		t.Errorf("it asked %v in %v", got, f)
	}
}
