package stack_test

import (
	"math"
	"slices"
	"testing"

	"blockyard/api"
	"blockyard/conn"
	"blockyard/ether"
	"blockyard/ipv4"
)

// Ids

// All that is sent counts on, of whatever protocol, to whomever; Arp has no Ids.
func TestIds(t *testing.T) {
	x := plainly(t)
	c := x.client(hostOf(1), 7, 1)
	x.in(x.arpFrom(a, x.n.Mac, 1, x.n.IP), x.answerTo(a))
	c.open()
	x.ping(a)
	s := api.Seg{From: 7, To: 11, Flags: api.Syn}
	x.in(x.segFrom(a, s), x.refused(a, s)...)
	f := x.packetFrom(a, api.Packet{Proto: 17, Data: "udp"})
	x.drop(f, x.notSpoken(a, f, 23))
	x.in(x.arpFrom(a, x.n.Mac, 1, x.n.IP), x.answerTo(a))
	x.Write(1, "data")
	x.wantOut(c.says(api.Psh, 0, 0, 2048, "data"))
	if x.nextId != 5 {
		t.Errorf("%d were sent", x.nextId)
	}
}

// What is lost had an Id, too.
func TestIdsOfWhatIsLost(t *testing.T) {
	x, c := aged(t, 3)
	x.quiet(3)
	c.wantUnknown()
	c.wantUnknown()
	x.ping(a)
	if x.nextId != 4 {
		t.Errorf("%d were sent", x.nextId)
	}
}

func TestIdsGoRound(t *testing.T) {
	x := plainly(t)
	c := x.client(hostOf(1), 7, 1)
	c.open()
	for range 65533 {
		x.ping(a)
	}
	if x.nextId != 65534 {
		t.Fatalf("the next one is %d", x.nextId)
	}
	for i := range 4 {
		c.wantKnown(c.host, i)
	}
	if x.nextId != 2 {
		t.Errorf("the next one is %d", x.nextId)
	}
	x.ping(a)
}

// The cache

// What goes to whom the cache does not have any more is lost, and asked for, each time; what comes then lets the next ones go.
func TestEntryGrowsTooOld(t *testing.T) {
	for _, age := range []int{1, 2, 20} {
		x, c := aged(t, age)
		x.quiet(age - 1)
		c.wantKnown(c.host, 0)
		x.quiet(1)
		c.wantUnknown()
		c.wantUnknown()
		x.Write(1, text(700))
		x.wantOut(c.lostTo(c.host), c.lostTo(c.host), c.lostTo(c.host), c.lostTo(c.host), c.lostTo(c.host), c.lostTo(c.host), c.lostTo(c.host))
		x.in(x.arpFrom(c.host, x.n.Mac, 2, x.n.IP))
		x.Close(1)
		x.Abort(1)
		x.wantOut(c.says(api.Fin, 703, 0, 2048, ""), c.says(api.Rst, 704, 0, 2048, ""))
	}
}

// The cache ticks ahead of the connections: what they send at the tick at which an entry goes is lost.
func TestEntryGrowsTooOldInATick(t *testing.T) {
	for age := 8; age <= 12; age++ {
		n := usual()
		n.Age = age
		x := labOf(t, n)
		c := x.client(a, 7, 1)
		c.syn()
		x.quiet(9)
		x.Tick()
		if age > 10 {
			x.wantOut(c.saysSyn())
		} else {
			x.wantOut(c.lostTo(a))
		}
	}
}

// An entry that goes beneath one connection lets another one's be.
func TestEntryOfOneGrowsTooOld(t *testing.T) {
	x, c := aged(t, 5)
	d := x.client(hostOf(2), 7, 2)
	x.quiet(3)
	d.open()
	x.quiet(2)
	c.wantUnknown()
	d.wantKnown(d.host, 0)
	x.quiet(2)
	d.wantKnown(d.host, 1)
	x.quiet(1)
	d.wantUnknown()
	c.in(c.brings(api.Ack, 0, 1, "x"), c.says(0, 1, 1, 2047, ""))
	d.wantUnknown()
}

// Ticks

// patient is how connections wait that send again at the same tick, whenever they began.
func patient(first int) api.Net {
	n := usual()
	n.Tcp = api.Tcp{First: first, Least: first, Most: 1000, Tries: 3, Linger: 5}
	return n
}

// The segments of several connections go out in the order of their numbers, not in that in which they were written.
func TestOrderInATick(t *testing.T) {
	x := labOf(t, patient(10))
	l := x.fill(conn.Open, conn.Open, conn.Open, conn.Open)
	for _, i := range []int{2, 0, 3, 1} {
		x.Write(l[i].id, text(5*i+1))
		x.wantOut(l[i].says(api.Psh, 0, 0, 2048, text(5*i+1)))
	}
	x.quiet(9)
	var want []string
	for i, c := range l {
		want = append(want, c.says(api.Psh, 0, 0, 2048, text(5*i+1)))
	}
	x.Tick()
	x.wantOut(want...)
}

// They do so, too, when lower numbers are gone, and when some are lost.
func TestOrderInATickWithLostOnes(t *testing.T) {
	n := patient(10)
	n.Age = 15
	x := labOf(t, n)
	l := x.fill(conn.Open, conn.Open, conn.Open, conn.Open)
	x.Abort(2)
	x.wantOut(l[1].says(api.Rst, 0, 0, 2048, ""))
	l[1] = x.client(hostOf(9), 7, 5)
	l[1].open()
	x.quiet(5)
	for _, i := range []int{3, 1, 2, 0} {
		x.Write(l[i].id, "x")
		x.wantOut(l[i].says(api.Psh, 0, 0, 2048, "x"))
	}
	x.quiet(5)
	x.ping(l[0].host)
	x.in(x.arpFrom(l[3].host, x.n.Mac, 2, x.n.IP))
	x.quiet(4)
	x.Tick()
	x.wantOut(l[0].says(api.Psh, 0, 0, 2048, "x"), l[2].lostTo(l[2].host), l[3].says(api.Psh, 0, 0, 2048, "x"), l[1].lostTo(l[1].host))
}

// All that a connection sends goes out as it was sent, ahead of the next one's.
func TestOrderOfOneConnection(t *testing.T) {
	x := plainly(t)
	c := x.client(a, 7, 1)
	c.open()
	x.Write(1, text(250))
	x.Close(1)
	x.wantOut(c.says(api.Psh, 0, 0, 2048, text(100)), c.says(api.Psh, 100, 0, 2048, text(200)[100:]), c.says(api.Psh, 200, 0, 2048, text(250)[200:]), c.says(api.Fin, 250, 0, 2048, ""))
	y := plainly(t)
	d := y.client(a, 7, 1)
	d.syn()
	y.Write(1, text(250))
	y.Close(1)
	y.wantOut()
	d.in(d.brings(api.Ack, 0, 0, ""), d.says(api.Psh, 0, 0, 2048, text(100)), d.says(api.Psh, 100, 0, 2048, text(200)[100:]), d.says(api.Psh, 200, 0, 2048, text(250)[200:]), d.says(api.Fin, 250, 0, 2048, ""))
	y.wantState(1, conn.FinSent)
}

// A segment is as long as a packet may be with nothing to spare: all that connections send may go.
func TestLongestSegments(t *testing.T) {
	x := plainly(t)
	c := x.client(a, 7, 1)
	syn := c.synSeg()
	syn.MSS, syn.Window = 65535, 65535
	x.Frame(x.segFrom(a, syn), c.mine-1)
	x.wantOut(c.saysSyn())
	c.in(c.brings(api.Ack, 0, 0, ""))
	s := c.seg(api.Ack, 0, 0, "")
	s.Window = 65535
	x.in(x.segFrom(a, s))
	if n := x.Write(1, text(3000)); n != 2048 {
		t.Errorf("Write: %d", n)
	}
	var want []string
	for at := 0; at < 2048; at += 536 {
		want = append(want, c.says(api.Psh, at, 0, 2048, text(min(at+536, 2048))[at:]))
	}
	x.wantOut(want...)
}

// Connections that are gone

func TestGoneInFrame(t *testing.T) {
	for _, state := range states() {
		x := plainly(t)
		c := x.client(a, 7, 1)
		c.bring(state)
		want := 1 // what his Seq must be
		if state == conn.SynIn || state == conn.Open || state == conn.FinSent || state == conn.FinDone {
			want = 0
		}
		x.in(c.brings(api.Rst, want, 0, ""))
		x.wantConns()
		x.wantNobody(1)
		s := c.seg(api.Ack, want, 0, "data")
		x.in(x.segFrom(a, s), x.refused(a, s)...)
		x.quiet(200)
	}
}

// The Ack of the last Fin ends a connection; what it still sends then goes out.
func TestGoneByTheLastAck(t *testing.T) {
	x := plainly(t)
	c := x.client(a, 7, 1)
	c.bring(conn.LastOut)
	x.in(c.brings(api.Ack, 1, 1, "late"), c.says(0, 1, 1, 2048, ""))
	x.wantNobody(1)
	x = plainly(t)
	c = x.client(a, 7, 1)
	c.bring(conn.LastOut)
	x.in(c.brings(api.Ack, 1, 1, ""))
	x.wantNobody(1)
	x.quiet(200)
}

// What was ready and not read is gone with the connection.
func TestGoneWithWhatWasReady(t *testing.T) {
	x := plainly(t)
	c := x.client(a, 7, 1)
	c.open()
	c.in(c.brings(api.Ack, 0, 0, "data"), c.says(0, 0, 4, 2044, ""))
	x.in(c.brings(api.Rst, 4, 0, ""))
	x.wantNobody(1)
}

func TestGoneInTick(t *testing.T) {
	n := usual()
	n.Tcp = api.Tcp{First: 3, Least: 3, Most: 3, Tries: 2, Linger: 5}
	// One that is not answered says that it ends, when it was open.
	x := labOf(t, n)
	c, d := x.client(hostOf(1), 7, 1), x.client(hostOf(2), 7, 2)
	c.open()
	d.open()
	x.Write(1, "data")
	x.wantOut(c.says(api.Psh, 0, 0, 2048, "data"))
	for range 2 {
		x.quiet(2)
		x.Tick()
		x.wantOut(c.says(api.Psh, 0, 0, 2048, "data"))
	}
	x.quiet(2)
	x.wantConns(1, 2)
	x.Write(2, "more")
	x.wantOut(d.says(api.Psh, 0, 0, 2048, "more"))
	x.Tick()
	x.wantOut(c.says(api.Rst, 4, 0, 2048, ""))
	x.wantConns(2)
	x.wantNobody(1)
	x.quiet(1)
	x.Tick()
	x.wantOut(d.says(api.Psh, 0, 0, 2048, "more"))
	// One that lingers says nothing.
	x = labOf(t, n)
	c = x.client(a, 7, 1)
	c.bring(conn.Linger)
	x.quiet(4)
	x.wantConns(1)
	x.quiet(1)
	x.wantConns()
	x.wantNobody(1)
	s := c.seg(api.Ack, 1, 1, "")
	x.in(x.segFrom(a, s), x.refused(a, s)...)
}

// Several may go in one tick; the Rst of each goes out in its turn.
func TestSeveralGoneInOneTick(t *testing.T) {
	n := usual()
	n.Tcp = api.Tcp{First: 3, Least: 3, Most: 3, Tries: 1, Linger: 5}
	x := labOf(t, n)
	l := x.fill(conn.Open, conn.Open, conn.Open, conn.Open)
	for _, i := range []int{3, 0, 2} {
		x.Write(i+1, "x")
		x.wantOut(l[i].says(api.Psh, 0, 0, 2048, "x"))
	}
	x.quiet(2)
	x.Tick()
	x.wantOut(l[0].says(api.Psh, 0, 0, 2048, "x"), l[2].says(api.Psh, 0, 0, 2048, "x"), l[3].says(api.Psh, 0, 0, 2048, "x"))
	x.quiet(2)
	x.Tick()
	x.wantOut(l[0].says(api.Rst, 1, 0, 2048, ""), l[2].says(api.Rst, 1, 0, 2048, ""), l[3].says(api.Rst, 1, 0, 2048, ""))
	x.wantConns(2)
}

func TestGoneByAbort(t *testing.T) {
	for _, state := range states() {
		x := plainly(t)
		c := x.client(a, 7, 1)
		c.bring(state)
		k := alike(t, x, c)
		x.Abort(1)
		k.Abort()
		c.wantAlike(k)
		x.wantConns()
		x.Abort(1)
		x.wantOut()
		c.id, c.mine = 2, 999
		c.open()
	}
}

// Close lets none go: also one whose Fin is all that is to be sent stays till that is acknowledged.
func TestClose(t *testing.T) {
	for _, state := range states() {
		x := plainly(t)
		c := x.client(a, 7, 1)
		c.bring(state)
		k := alike(t, x, c)
		for range 2 {
			x.Close(1)
			k.Close()
			c.wantAlike(k)
			x.wantConns(c.conns(k)...)
			if n := x.Write(1, "late"); n != k.Write("late") {
				t.Errorf("Write in %d: %d", state, n)
			}
			c.wantAlike(k)
		}
	}
}

// The calls

// Each call of a connection that is there is as layer 15's, in whatever state, and of one that is not there as of none.
func TestCallsOfEachNumber(t *testing.T) {
	for _, state := range states() {
		x := plainly(t)
		c := x.client(a, 7, 1)
		c.bring(state)
		k := alike(t, x, c)
		for _, id := range []int{0, -1, 2, 3, 4, 5, 256, 257, 1 << 32, 1<<32 + 1, math.MinInt, math.MinInt + 1, math.MaxInt} {
			x.wantNobody(id)
		}
		c.wantAlike(k)
		s := c.seg(api.Ack, 0, 0, text(300))
		x.Frame(x.segFrom(a, s), 0)
		k.In(s)
		c.wantAlike(k)
		for _, n := range []int{-1, math.MinInt, 0, 1, 5, 100, math.MaxInt, 3} {
			if got, want := x.Read(1, n), k.Read(n); got != want {
				t.Errorf("Read(%d) in %d: %q, want %q", n, state, got, want)
			}
			c.wantAlike(k)
		}
		for _, n := range []int{0, 1, 99, 500, 1800, 10} {
			if got, want := x.Write(1, text(n)), k.Write(text(n)); got != want {
				t.Errorf("Write of %d in %d: %d, want %d", n, state, got, want)
			}
			c.wantAlike(k)
		}
	}
}

// What Read sends goes out: that there is room again.
func TestReadTellsRoom(t *testing.T) {
	x := plainly(t)
	c := x.client(a, 7, 1)
	c.open()
	for at := 0; at < 2048; at += 512 {
		c.in(c.brings(api.Ack, at, 0, text(at + 512)[at:]), c.says(0, 0, at+512, 2048-at-512, ""))
	}
	if s := x.Read(1, 535); s != text(535) {
		t.Errorf("Read: %q", s)
	}
	x.wantOut()
	if s := x.Read(1, 1); s != text(536)[535:] {
		t.Errorf("Read: %q", s)
	}
	x.wantOut(c.says(0, 0, 2048, 536, ""))
	if s := x.Read(1, 5000); s != text(2048)[536:] {
		t.Errorf("Read: %q", s)
	}
	x.wantOut()
}

// A connection that has but a Syn may be written to and closed, and is not told by Conns.
func TestSynInCalls(t *testing.T) {
	x := plainly(t)
	c := x.client(a, 7, 1)
	c.syn()
	if n := x.Room(1); n != 2048 {
		t.Errorf("Room: %d", n)
	}
	if n := x.Write(1, "data"); n != 4 {
		t.Errorf("Write: %d", n)
	}
	if n := x.Room(1); n != 2044 {
		t.Errorf("Room: %d", n)
	}
	if x.Eof(1) || x.Ready(1) != 0 || x.Read(1, 9) != "" {
		t.Error("there is something to be read")
	}
	x.wantOut()
	x.wantConns()
	c.in(c.brings(api.Ack, 0, 0, ""), c.says(api.Psh, 0, 0, 2048, "data"))
	x.wantConns(1)
}

func TestEof(t *testing.T) {
	x := plainly(t)
	c := x.client(a, 7, 1)
	c.open()
	if x.Eof(1) {
		t.Error("Eof ahead of all")
	}
	c.in(c.brings(api.Ack|api.Fin, 0, 0, "last"), c.says(0, 0, 5, 2044, ""))
	for i := range 4 {
		if x.Eof(1) || x.Ready(1) != 4-i {
			t.Errorf("Eof: %v, Ready: %d", x.Eof(1), x.Ready(1))
		}
		if s := x.Read(1, 1); s != "last"[i:i+1] {
			t.Errorf("Read: %q", s)
		}
	}
	if !x.Eof(1) || x.Ready(1) != 0 {
		t.Error("no Eof behind all")
	}
	x.wantConns(1)
	x.wantState(1, conn.Left)
}

// Each call touches its own connection alone.
func TestCallsTouchTheirOwnConnection(t *testing.T) {
	for id := 1; id <= 4; id++ {
		x := plainly(t)
		l := x.fill(conn.Open, conn.Open, conn.Open, conn.Open)
		for _, c := range l {
			c.in(c.brings(api.Ack, 0, 0, text(10*c.id)), c.says(0, 0, 10*c.id, 2048-10*c.id, ""))
		}
		c := l[id-1]
		if s := x.Read(id, 5); s != text(5) {
			t.Errorf("Read: %q", s)
		}
		x.Write(id, "data")
		x.wantOut(c.says(api.Psh, 0, 10*id, 2053-10*id, "data"))
		x.Close(id)
		x.wantOut(c.says(api.Fin, 4, 10*id, 2053-10*id, ""))
		for _, d := range l {
			if d == c {
				continue
			}
			if n := x.Ready(d.id); n != 10*d.id || x.Room(d.id) != 2048 || x.State(d.id) != conn.Open {
				t.Errorf("of %d %d are ready", d.id, n)
			}
		}
		x.Abort(id)
		x.wantOut(c.says(api.Rst, 5, 10*id, 2053-10*id, ""))
		there := []int{1, 2, 3, 4}
		x.wantConns(slices.Delete(there, id-1, id)...)
	}
}

// All that goes out is a frame of the stack's, and a packet that is whole.
func TestWhatGoesOut(t *testing.T) {
	x := plainly(t)
	c := x.client(a, 7, 1)
	x.Frame(c.bringsSyn(), c.mine-1)
	x.Frame(c.brings(api.Ack, 0, 0, text(536)), 0)
	x.Write(1, text(900))
	x.Frame(x.icmpFrom(a, api.Icmp{Kind: 8, Data: text(558)}), 0)
	x.Frame(x.packetFrom(a, api.Packet{Proto: 17, Ttl: 9, Data: text(566)}), 0)
	x.Abort(1)
	l := x.Out()
	if len(l) != 14 {
		t.Errorf("%d frames", len(l))
	}
	for i, s := range l {
		f, e := ether.Read(s)
		if e != api.OK || f.To != a.mac || f.From != x.n.Mac || f.Type != api.TypeIP {
			t.Errorf("%d: %v, %d", i, f, e)
		}
		p, e := ipv4.Read(f.Data)
		if e != api.OK || p.Id != i || p.From != x.n.IP || p.To != a.ip || p.Ttl != 64 || p.At != 0 || p.More || len(f.Data) != 20+len(p.Data) {
			t.Errorf("%d: %v, %d", i, p, e)
		}
	}
}
