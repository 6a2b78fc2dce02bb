package stack_test

import (
	"encoding/hex"
	"slices"
	"strings"
	"testing"

	"blockyard/api"
	"blockyard/arp"
	"blockyard/conn"
	"blockyard/ether"
	"blockyard/icmp"
	"blockyard/ipv4"
	"blockyard/seg"
	"blockyard/stack"
)

// usual is who most stacks here are. Its entries and pieces are there for long.
func usual() api.Net {
	return api.Net{
		Mac: api.Mac{2, 0, 0, 0, 0, 2}, IP: api.IP{10, 0, 0, 2}, Port: 10,
		Tcp: api.Tcp{First: 10, Least: 2, Most: 60, Tries: 3, Linger: 5},
		Age: 1000, Parts: 10,
	}
}

// host is somebody on the wire.
type host struct {
	mac api.Mac
	ip  api.IP
}

// hostOf is one of many.
func hostOf(n int) host {
	return host{api.Mac{2, 0, 0, 1, 0, byte(n)}, api.IP{10, 0, 1, byte(n)}}
}

// lab is a stack, and what is known of it.
type lab struct {
	t *testing.T
	*stack.Stack
	n      api.Net
	nextId int // that of the next packet which it should send
	drops  int // how many it should have dropped
}

func labOf(t *testing.T, n api.Net) *lab {
	t.Helper()
	s, e := stack.New(n)
	if e != api.OK || s == nil {
		t.Fatalf("New: %v, %d", s, e)
	}
	return &lab{t: t, Stack: s, n: n}
}

func plainly(t *testing.T) *lab {
	t.Helper()
	return labOf(t, usual())
}

// What is made

func must(s string, e api.Errno) string {
	if e != api.OK {
		panic(int(e))
	}
	return s
}

// text is the first n bytes of a stream in which no two stretches are alike that are near one another.
func text(n int) string {
	b := make([]byte, n)
	for i := range n {
		b[i] = byte(i*167 + i/251)
	}
	return string(b)
}

func unhex(s string) string {
	b, e := hex.DecodeString(strings.ReplaceAll(s, " ", ""))
	if e != nil {
		panic(e)
	}
	return string(b)
}

func frameOf(to, from api.Mac, kind int, data string) string {
	return must(ether.Bytes(api.Frame{To: to, From: from, Type: kind, Data: data}))
}

// packetFrom is the frame in which a packet of h comes, whose From and To are filled in.
func (x *lab) packetFrom(h host, p api.Packet) string {
	p.From, p.To = h.ip, x.n.IP
	return frameOf(x.n.Mac, h.mac, api.TypeIP, must(ipv4.Bytes(p)))
}

func (x *lab) tcpBytes(h host, s api.Seg) string {
	return must(seg.Bytes(s, h.ip, x.n.IP))
}

func (x *lab) segFrom(h host, s api.Seg) string {
	return x.packetFrom(h, api.Packet{Id: 77, Proto: api.ProtoTcp, Ttl: 5, Data: x.tcpBytes(h, s)})
}

func (x *lab) icmpFrom(h host, m api.Icmp) string {
	return x.packetFrom(h, api.Packet{Id: 78, Proto: api.ProtoIcmp, Ttl: 5, Data: must(icmp.Bytes(m))})
}

// arpFrom is the frame in which h asks (1) or answers (2).
func (x *lab) arpFrom(h host, to api.Mac, op int, toIP api.IP) string {
	a := api.Arp{Op: op, Mac: h.mac, IP: h.ip, ToIP: toIP}
	return frameOf(to, h.mac, api.TypeArp, must(arp.Bytes(a)))
}

// What should go out

// packetTo is the frame in which the next packet goes to h.
func (x *lab) packetTo(h host, proto int, data string) string {
	p := api.Packet{Id: x.nextId, From: x.n.IP, To: h.ip, Proto: proto, Ttl: 64, Data: data}
	x.nextId = (x.nextId + 1) % 65536
	return frameOf(h.mac, x.n.Mac, api.TypeIP, must(ipv4.Bytes(p)))
}

func (x *lab) segTo(h host, s api.Seg) string {
	return x.packetTo(h, api.ProtoTcp, must(seg.Bytes(s, x.n.IP, h.ip)))
}

func (x *lab) icmpTo(h host, m api.Icmp) string {
	return x.packetTo(h, api.ProtoIcmp, must(icmp.Bytes(m)))
}

// lostTo is the frame that asks for h, to which the next packet can't go.
func (x *lab) lostTo(h host) string {
	x.nextId = (x.nextId + 1) % 65536
	a := api.Arp{Op: 1, Mac: x.n.Mac, IP: x.n.IP, ToIP: h.ip}
	return frameOf(ether.Everybody(), x.n.Mac, api.TypeArp, must(arp.Bytes(a)))
}

func (x *lab) answerTo(h host) string {
	a := api.Arp{Op: 2, Mac: x.n.Mac, IP: x.n.IP, ToMac: h.mac, ToIP: h.ip}
	return frameOf(h.mac, x.n.Mac, api.TypeArp, must(arp.Bytes(a)))
}

// What is asked

// wantOut asks whether just these frames went out since it was asked last, and whether no more were dropped than is known.
func (x *lab) wantOut(want ...string) {
	x.t.Helper()
	got := x.Out()
	if !slices.Equal(got, want) {
		x.t.Fatalf("Out:\n%s\nwant:\n%s", told(got), told(want))
	}
	x.wantDrops()
}

func (x *lab) wantDrops() {
	x.t.Helper()
	if n := x.Drops(); n != x.drops {
		x.t.Fatalf("Drops: %d, want %d", n, x.drops)
	}
}

func (x *lab) wantConns(want ...int) {
	x.t.Helper()
	if got := x.Conns(); !slices.Equal(got, want) {
		x.t.Fatalf("Conns: %v, want %v", got, want)
	}
}

func (x *lab) wantState(id, want int) {
	x.t.Helper()
	if got := x.State(id); got != want {
		x.t.Fatalf("State(%d): %d, want %d", id, got, want)
	}
}

// in lets a frame come that is not dropped.
func (x *lab) in(frame string, want ...string) {
	x.t.Helper()
	x.Frame(frame, 0)
	x.wantOut(want...)
}

// drop lets a frame come that is dropped.
func (x *lab) drop(frame string, want ...string) {
	x.t.Helper()
	x.Frame(frame, 0)
	x.drops++
	x.wantOut(want...)
}

// quiet lets n ticks go by, in which nothing is sent.
func (x *lab) quiet(n int) {
	x.t.Helper()
	for range n {
		x.Tick()
		x.wantOut()
	}
}

// ping asks for an echo from h. So what goes to h, and what it is known by, can be asked without a connection.
func (x *lab) ping(h host) {
	x.t.Helper()
	x.in(x.icmpFrom(h, api.Icmp{Kind: 8, Rest: 5, Data: "ping"}), x.icmpTo(h, api.Icmp{Rest: 5, Data: "ping"}))
}

func told(l []string) string {
	b := strings.Builder{}
	for _, s := range l {
		b.WriteString(hex.EncodeToString([]byte(s)))
		b.WriteByte('\n')
	}
	return b.String()
}

// client is the other end of a connection. All numbers are told from his first byte on, or from mine: his Syn and mine have -1.
type client struct {
	*lab
	host
	port      int
	id        int
	his, mine uint32
}

// client is one at a port, whose connection will have that number.
func (x *lab) client(h host, port, id int) *client {
	return &client{lab: x, host: h, port: port, id: id, his: uint32(1000*port + 1), mine: uint32(1<<20*id + 1)}
}

func (c *client) seg(flags, seq, ack int, data string) api.Seg {
	return api.Seg{From: c.port, To: c.n.Port, Seq: c.his + uint32(seq), Ack: c.mine + uint32(ack), Flags: flags, Window: 1000, Data: data}
}

// brings is the frame in which a segment of his comes.
func (c *client) brings(flags, seq, ack int, data string) string {
	return c.segFrom(c.host, c.seg(flags, seq, ack, data))
}

func (c *client) synSeg() api.Seg {
	return api.Seg{From: c.port, To: c.n.Port, Seq: c.his - 1, Flags: api.Syn, Window: 1000, MSS: 100}
}

func (c *client) bringsSyn() string {
	return c.segFrom(c.host, c.synSeg())
}

func (c *client) saidSeg(flags, seq, ack, window int, data string) api.Seg {
	return api.Seg{From: c.n.Port, To: c.port, Seq: c.mine + uint32(seq), Ack: c.his + uint32(ack), Flags: flags | api.Ack, Window: window, Data: data}
}

// says is the frame in which a segment goes to him.
func (c *client) says(flags, seq, ack, window int, data string) string {
	return c.segTo(c.host, c.saidSeg(flags, seq, ack, window, data))
}

func (c *client) saysSyn() string {
	s := c.saidSeg(api.Syn, -1, 0, 2048, "")
	s.MSS = 536
	return c.segTo(c.host, s)
}

// syn begins his connection.
func (c *client) syn() {
	c.t.Helper()
	c.Frame(c.bringsSyn(), c.mine-1)
	c.wantOut(c.saysSyn())
	c.wantState(c.id, conn.SynIn)
}

func (c *client) open() {
	c.t.Helper()
	c.syn()
	c.in(c.brings(api.Ack, 0, 0, ""))
	c.wantState(c.id, conn.Open)
}

// fin closes his side; his acknowledges what ack says.
func (c *client) fin(ack int) {
	c.t.Helper()
	c.in(c.brings(api.Ack|api.Fin, 0, ack, ""), c.says(0, ack, 1, 2048, ""))
}

// shut closes my side, when he has closed his, or has not.
func (c *client) shut(ack int) {
	c.t.Helper()
	c.Close(c.id)
	c.wantOut(c.says(api.Fin, 0, ack, 2048, ""))
}

// bring brings his connection to a state, from its beginning on; without any data.
func (c *client) bring(state int) {
	c.t.Helper()
	if state == conn.SynIn {
		c.syn()
		return
	}
	c.open()
	switch state {
	case conn.FinSent, conn.FinDone, conn.Both, conn.Linger:
		c.shut(0)
	case conn.Left, conn.LastOut:
		c.fin(0)
	}
	switch state {
	case conn.FinDone:
		c.in(c.brings(api.Ack, 0, 1, ""))
	case conn.Both:
		c.in(c.brings(api.Ack|api.Fin, 0, 0, ""), c.says(0, 1, 1, 2048, ""))
	case conn.Linger:
		c.fin(1)
	case conn.LastOut:
		c.shut(1)
	}
	c.wantState(c.id, state)
}
