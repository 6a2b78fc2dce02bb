package stack_test

import (
	"math/rand"
	"slices"
	"strings"
	"testing"

	"blockyard/api"
	"blockyard/arp"
	"blockyard/conn"
	"blockyard/ether"
	"blockyard/ipv4"
	"blockyard/seg"
	"blockyard/stack"
)

// Streams

// far is a client as one should be, at the other side of a wire: it begins its connection with a Syn, which it sends again till that is answered, and has an end of layer 15 from then on.
type far struct {
	host
	port  int
	iss   uint32
	n     api.Net
	k     *conn.Conn
	id    int // of its packets
	wait  int
	text  string // what it sends
	at    int
	got   []byte
	frame []string // what it sends
}

func (y *far) send(l ...api.Seg) {
	for _, s := range l {
		p := api.Packet{Id: y.id % 65536, From: y.ip, To: y.n.IP, Proto: api.ProtoTcp, Ttl: 9, Data: must(seg.Bytes(s, y.ip, y.n.IP))}
		y.id++
		pieces := []api.Packet{p}
		if y.id%7 == 0 {
			pieces = cut(p, 80)
		}
		for _, q := range pieces {
			y.frame = append(y.frame, frameOf(y.n.Mac, y.mac, api.TypeIP, must(ipv4.Bytes(q))))
		}
	}
}

func (y *far) syn() {
	y.send(api.Seg{From: y.port, To: y.n.Port, Seq: y.iss, Flags: api.Syn, Window: 2048, MSS: 536})
	y.wait = 20
}

// in takes what comes to it. It answers who asks for its address.
func (y *far) in(s string) {
	f, e := ether.Read(s)
	if e != api.OK || !ether.For(f, y.mac) {
		return
	}
	if a, e := arp.Read(f.Data); f.Type == api.TypeArp && e == api.OK {
		if b, ok := arp.Answer(a, y.ip, y.mac); ok {
			y.frame = append(y.frame, frameOf(a.Mac, y.mac, api.TypeArp, must(arp.Bytes(b))))
		}
		return
	}
	p, e := ipv4.Read(f.Data)
	if e != api.OK || p.To != y.ip {
		return
	}
	x, e := seg.Read(p.Data, p.From, p.To)
	if e != api.OK || x.To != y.port {
		return
	}
	if y.k != nil {
		y.k.In(x)
	} else if x.Flags == api.Syn|api.Ack && x.Ack == y.iss+1 {
		syn := x
		syn.Flags = api.Syn
		o := y.n.Tcp
		o.Linger = 400 // his last Ack may be lost, so he stays for whoever asks again
		y.k, _ = conn.New(syn, y.iss, o)
		y.k.In(api.Seg{From: x.From, To: x.To, Seq: x.Seq + 1, Ack: x.Ack, Flags: api.Ack, Window: x.Window})
		y.k.Out()
		y.send(api.Seg{From: y.port, To: y.n.Port, Seq: y.iss + 1, Ack: x.Seq + 1, Flags: api.Ack, Window: 2048})
	}
}

// act does what it does in a tick.
func (y *far) act(r *rand.Rand) {
	if y.k == nil {
		if y.wait == 0 {
			y.syn()
		}
		y.wait--
		return
	}
	y.at += y.k.Write(y.text[y.at:min(len(y.text), y.at+r.Intn(700))])
	if y.at == len(y.text) {
		y.k.Close()
	}
	y.got = append(y.got, y.k.Read(r.Intn(600))...)
	y.k.Tick()
	y.send(y.k.Out()...)
}

// air brings frames over, some late, some twice, some not at all, some with something turned; from a moment on all as they are.
type air struct {
	r              *rand.Rand
	now, fair      int
	lost, bad, far int
	under          []flight
}

type flight struct {
	at int
	f  string
}

func (w *air) put(l []string) {
	for _, f := range l {
		if w.now < w.fair && w.r.Intn(100) < w.lost {
			continue
		}
		if w.now < w.fair && w.r.Intn(100) < w.bad {
			b := []byte(f)
			b[w.r.Intn(len(b))] ^= 1 << w.r.Intn(8)
			w.under = append(w.under, flight{w.now + 1 + w.r.Intn(w.far), string(b)})
		}
		for range 1 + w.r.Intn(8)/7 {
			w.under = append(w.under, flight{w.now + 1 + w.r.Intn(w.far), f})
		}
	}
}

func (w *air) take() []string {
	w.now++
	var l []string
	w.under = slices.DeleteFunc(w.under, func(x flight) bool {
		if x.at <= w.now {
			l = append(l, x.f)
		}
		return x.at <= w.now
	})
	return l
}

// owner reads and writes what a stack's connections bring, by their numbers: it says of each what it was told, and text of its own behind that.
type owner struct {
	got  map[int][]byte
	said map[int]int
	text map[int]string
}

func (o *owner) act(t *testing.T, s *stack.Stack, r *rand.Rand) {
	ids := s.Conns()
	if !slices.IsSorted(ids) || len(ids) > api.MaxConns {
		t.Fatalf("Conns: %v", ids)
	}
	for _, id := range ids {
		if o.text[id] == "" {
			b := make([]byte, r.Intn(6000))
			r.Read(b)
			o.text[id] = string(b) + "."
		}
		o.got[id] = append(o.got[id], s.Read(id, r.Intn(700))...)
		n := o.said[id]
		o.said[id] += s.Write(id, o.text[id][n:min(len(o.text[id]), n+r.Intn(600))])
		if o.said[id] == len(o.text[id]) && s.Eof(id) {
			s.Close(id)
		}
	}
}

// noise is frames of others, who know nothing of the clients: strays of all kinds.
func noise(x *lab, r *rand.Rand) string {
	h := hostOf(50 + r.Intn(2))
	switch r.Intn(6) {
	case 0:
		return x.icmpFrom(h, api.Icmp{Kind: 8, Data: "noise"})
	case 1:
		return x.segFrom(h, api.Seg{From: r.Intn(65536), To: 10, Seq: r.Uint32(), Ack: r.Uint32(), Flags: r.Intn(32) &^ api.Syn})
	case 2:
		return x.packetFrom(h, api.Packet{Id: r.Intn(9), At: 8 * r.Intn(9), More: true, Proto: api.ProtoTcp, Data: text(8)})
	case 3:
		return x.arpFrom(h, ether.Everybody(), 1+r.Intn(2), api.IP{10, 0, 0, byte(r.Intn(4))})
	case 4:
		return text(r.Intn(700))
	}
	return x.packetFrom(h, api.Packet{Proto: r.Intn(256) | 128, Data: text(r.Intn(90))})
}

// Over bad wires each end reads a beginning of what the other one sent, and all of it as soon as the wires are fair; then all connections end.
func TestStreamsOverBadWires(t *testing.T) {
	for seed := range int64(40) {
		r := rand.New(rand.NewSource(seed))
		n := usual()
		n.Tcp = api.Tcp{First: 8, Least: 4, Most: 32, Tries: 60, Linger: 8}
		n.Age, n.Parts = 30+r.Intn(200), 5+r.Intn(20)
		x := labOf(t, n)
		w := &air{r: r, fair: r.Intn(600), lost: r.Intn(35), bad: r.Intn(10), far: 1 + r.Intn(9)}
		var l []*far
		for i := range 4 {
			b := make([]byte, 1+r.Intn(6000))
			r.Read(b)
			l = append(l, &far{host: hostOf(i / 2), port: 20 + i, iss: r.Uint32() | 0xfffff000, n: n, text: string(b)})
		}
		o := &owner{got: map[int][]byte{}, said: map[int]int{}, text: map[int]string{}}
		for range 1800 {
			for _, f := range w.take() {
				x.Frame(f, r.Uint32()|0xfffffc00)
				for _, y := range l {
					y.in(f)
				}
			}
			if r.Intn(3) == 0 {
				x.Frame(noise(x, r), r.Uint32())
			}
			x.Tick()
			o.act(t, x.Stack, r)
			w.put(x.Out())
			for _, y := range l {
				y.act(r)
				w.put(y.frame)
				y.frame = nil
			}
			begins(t, l, o)
		}
		ends(t, seed, x, l, o)
	}
}

// begins asks whether whatever was read is a beginning of what was sent. Whose connection has which number is told by what it reads.
func begins(t *testing.T, l []*far, o *owner) {
	t.Helper()
	for id, got := range o.got {
		if !slices.ContainsFunc(l, func(y *far) bool { return strings.HasPrefix(y.text[:y.at], string(got)) }) {
			t.Fatalf("%d reads what nobody sent", id)
		}
	}
	for _, y := range l {
		ok := len(y.got) == 0
		for id, text := range o.text {
			ok = ok || strings.HasPrefix(text[:o.said[id]], string(y.got))
		}
		if !ok {
			t.Fatalf("port %d reads what nobody sent", y.port)
		}
	}
}

func ends(t *testing.T, seed int64, x *lab, l []*far, o *owner) {
	t.Helper()
	for _, y := range l {
		id := 0
		for i, text := range o.text {
			if text == string(y.got) {
				id = i
			}
		}
		if id == 0 || string(o.got[id]) != y.text || y.k.State() != conn.Gone {
			t.Errorf("seed %d: port %d: read %d, and %d of %d were read, State %d", seed, y.port, len(y.got), len(o.got[id]), len(y.text), y.k.State())
		}
	}
	if ids := x.Conns(); len(ids) != 0 {
		t.Errorf("seed %d: Conns: %v", seed, ids)
	}
}

// Others

// script is what is done to a connection with the number id, step by step, from its beginning on.
func script(c *client) []func() {
	frame := func(s api.Seg) func() {
		return func() { c.Frame(c.segFrom(c.host, s), c.mine-1) }
	}
	return []func(){
		frame(c.synSeg()),
		c.Tick,
		frame(c.seg(api.Ack, 0, 0, "")),
		func() { c.Write(c.id, text(350)) },
		frame(c.seg(api.Ack, 3, 100, "defg")),
		c.Tick,
		frame(c.seg(api.Ack, 0, 100, "abcd")),
		func() { c.Read(c.id, 2) },
		c.Tick, c.Tick, c.Tick,
		frame(c.seg(api.Ack, 4, 350, "efgh")),
		func() { c.Close(c.id) },
		c.Tick, c.Tick,
		frame(c.seg(api.Ack|api.Fin, 8, 350, "")),
		c.Tick, c.Tick, c.Tick, c.Tick,
		frame(c.seg(api.Ack, 9, 351, "")),
		c.Tick, c.Tick, c.Tick, c.Tick, c.Tick, c.Tick,
	}
}

// stands is how a connection stands behind a step, and what it sent.
type stands struct {
	state, ready, room int
	eof                bool
	sent               string
}

// run does a script, and whatever else is done between, and tells how the connection stood.
func (c *client) run(between func()) []stands {
	var l []stands
	for _, step := range script(c) {
		between()
		c.Out()
		step()
		x := stands{state: c.State(c.id), ready: c.Ready(c.id), room: c.Room(c.id), eof: c.Eof(c.id)}
		for _, f := range c.Out() {
			g, _ := ether.Read(f)
			p, _ := ipv4.Read(g.Data)
			s, e := seg.Read(p.Data, p.From, p.To)
			if g.To == c.mac && e == api.OK && s.To == c.port {
				x.sent += p.Data + "|"
			}
		}
		l = append(l, x)
	}
	return l
}

// What others are sent, and send, changes nothing of a connection.
func TestOthersChangeNothing(t *testing.T) {
	x := plainly(t)
	want := x.client(hostOf(1), 7, 1).run(func() {})
	for seed := range int64(300) {
		r := rand.New(rand.NewSource(seed))
		x := plainly(t)
		c := x.client(hostOf(1), 7, 1)
		// The first one may not begin behind c, or c would have another number.
		began := false
		got := c.run(func() {
			for range r.Intn(6) {
				if began {
					c.bother(r)
				}
			}
			began = true
		})
		if !slices.Equal(got, want) {
			t.Fatalf("seed %d:\n%v\nwant:\n%v", seed, got, want)
		}
	}
}

// bother does something with others: at the same host, at the same port of another one, and at others. (Of a second one that has but a Syn there is none, nor do four others get room: they'd let c go, when it lingers.)
func (c *client) bother(r *rand.Rand) {
	h := hostOf(1 + r.Intn(2))
	port := 7 + r.Intn(2)
	if h == c.host && port == c.port {
		port = 9
	}
	id := 2 + r.Intn(3)
	switch r.Intn(8) {
	case 0, 1:
		if len(c.Conns()) < 3 {
			c.Frame(c.segFrom(h, api.Seg{From: port, To: 10, Seq: 100, Flags: api.Syn, Window: 99}), 700)
		}
	case 2:
		c.Frame(c.segFrom(h, api.Seg{From: port, To: 10, Seq: 101, Ack: 701, Flags: api.Ack, Window: 99, Data: "other"}), 0)
	case 3:
		c.Frame(c.segFrom(h, api.Seg{From: port, To: 10, Seq: 101, Ack: 701, Flags: r.Intn(32) &^ api.Syn}), 0)
	case 4:
		c.Write(id, text(r.Intn(900)))
	case 5:
		c.Read(id, r.Intn(9))
	case 6:
		c.Close(id)
		c.Abort(id + 1)
	default:
		c.Frame(noise(c.lab, r), 5)
	}
}

// Drops

// dropped are frames that are dropped, whatever went ahead: for what they are themselves.
func dropped(x *lab, r *rand.Rand) string {
	c := x.client(hostOf(1), 7, 1)
	good := []string{c.bringsSyn(), c.brings(api.Rst, 0, 0, ""), c.brings(api.Ack, 0, 0, "data"), x.icmpFrom(hostOf(1), api.Icmp{Kind: 8}), x.arpFrom(hostOf(1), x.n.Mac, 1, x.n.IP)}
	f := good[r.Intn(len(good))]
	b := []byte(f)
	switch r.Intn(6) {
	case 0:
		return f[:r.Intn(14)]
	case 1:
		return f + strings.Repeat("x", 601-len(f)+r.Intn(99))
	case 2:
		b[r.Intn(6)] ^= 1 << r.Intn(8)
	case 3:
		b[12+r.Intn(2)] ^= 8 << r.Intn(5)
	case 4:
		me := otherMac(host{hostOf(1).mac, x.n.IP})
		return x.packetFrom(me, api.Packet{Proto: r.Intn(256), More: true, At: 8 * r.Intn(99), Data: text(8)})
	case 5:
		return x.direct(somebody.mac, api.Packet{From: hostOf(1).ip, To: api.IP{10, 0, 0, 3}, Proto: api.ProtoTcp, Data: f[34:]})
	}
	return string(b)
}

// With frames between that are dropped for themselves all is as without them, byte by byte, but for the count.
func TestDropsChangeNothing(t *testing.T) {
	for seed := range int64(100) {
		x, y := chanceOf(t, seed), labOf(t, chanceOf(t, seed).n)
		r := rand.New(rand.NewSource(seed))
		drops := 0
		for range 300 {
			for range r.Intn(3) {
				y.Frame(dropped(y, r), r.Uint32())
				drops++
			}
			x.alsoDo(y)
			if !slices.Equal(x.s.Out(), y.Out()) || !slices.Equal(x.s.Conns(), y.Conns()) || y.Drops() != x.s.Drops()+drops {
				t.Fatalf("seed %d: Conns %v, want %v; Drops %d, want %d and %d", seed, y.Conns(), x.s.Conns(), y.Drops(), x.s.Drops(), drops)
			}
		}
	}
}

// alsoDo does one thing to x and to y.
func (x *chance) alsoDo(y *lab) {
	x.lab.t.Helper()
	id := x.id()
	switch x.r.Intn(12) {
	case 0, 1:
		x.tick()
		y.Tick()
	case 2:
		n := x.r.Intn(99)
		if x.s.Read(id, n) != y.Read(id, n) {
			x.lab.t.Fatalf("Read(%d)", id)
		}
		x.p.conn(id).Read(n)
	case 3:
		data := text(x.r.Intn(900))
		x.write(id, data)
		y.Write(id, data)
	case 4:
		x.close(id)
		y.Close(id)
	default:
		f, draw := x.next(), x.r.Uint32()
		x.frame(f, draw)
		y.Frame(f, draw)
	}
	x.p.say()
}

// What is dropped for what it has inside, or for want of room, changes nothing of any connection; it sends nothing, but what says that a protocol is not spoken.
func TestDropsInside(t *testing.T) {
	x := plainly(t)
	l := x.fill(conn.Open, conn.Left, conn.FinDone, conn.SynIn)
	h := l[0].host
	bad := []string{
		x.packetFrom(h, api.Packet{Proto: api.ProtoIcmp, Data: "no message"}),
		x.icmpFrom(h, api.Icmp{Kind: 0}),
		x.packetFrom(h, api.Packet{Proto: api.ProtoTcp, Data: text(40)}),
		x.client(a, 9, 5).bringsSyn(),
		x.client(h, 9, 5).bringsSyn(),
		string(slices.Repeat([]byte{255}, 6)) + x.packetFrom(h, api.Packet{Proto: 17, Data: "udp"})[6:],
	}
	for i := range 60 {
		x.drop(bad[i%len(bad)])
		x.wantConns(1, 2, 3)
		for j, state := range []int{conn.Open, conn.Left, conn.FinDone, conn.SynIn, conn.Gone} {
			x.wantState(j+1, state)
		}
	}
	x.Write(1, "data")
	x.wantOut(l[0].says(api.Psh, 0, 0, 2048, "data"))
	l[3].in(l[3].brings(api.Ack, 0, 0, ""))
	x.wantConns(1, 2, 3, 4)
}
