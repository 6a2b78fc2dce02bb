package stack_test

import (
	"slices"
	"strings"
	"testing"

	"blockyard/api"
	"blockyard/conn"
	"blockyard/seg"
)

// Segments

func TestNoSegment(t *testing.T) {
	x := plainly(t)
	c := x.client(a, 7, 1)
	syn := x.tcpBytes(a, c.synSeg())
	tcp := func(s string) string {
		return x.packetFrom(a, api.Packet{Proto: api.ProtoTcp, Data: s})
	}
	for n := range len(syn) {
		x.drop(tcp(syn[:n]))
	}
	for bit := range 8 * len(syn) {
		b := []byte(syn)
		b[bit/8] ^= 1 << (bit % 8)
		x.drop(tcp(string(b)))
	}
	x.wantConns()
	x.wantState(1, conn.Gone)
	c.open()
	data := x.tcpBytes(a, c.seg(api.Ack, 0, 0, "data"))
	for bit := range 8 * len(data) {
		b := []byte(data)
		b[bit/8] ^= 1 << (bit % 8)
		x.drop(tcp(string(b)))
	}
	if n := x.Ready(1); n != 0 {
		t.Errorf("Ready: %d", n)
	}
}

// The sum has the addresses in it: what was meant for another one, or came from one, is no segment here.
func TestSumsOfOtherAddresses(t *testing.T) {
	x := plainly(t)
	c := x.client(a, 7, 1)
	put := func(from, to api.IP) {
		b := must(seg.Bytes(c.synSeg(), from, to))
		x.drop(x.packetFrom(a, api.Packet{Proto: api.ProtoTcp, Data: b}))
	}
	for bit := range 32 {
		from, to := a.ip, x.n.IP
		from[bit/8] ^= 1 << (bit % 8)
		put(from, to)
		from = a.ip
		to[bit/8] ^= 1 << (bit % 8)
		put(from, to)
	}
	put(api.IP{}, api.IP{})
	put(somebody.ip, x.n.IP)
	c.open()
}

// refused is what goes to h for a segment of his that has no connection, and begins none.
func (x *lab) refused(h host, s api.Seg) []string {
	if s.Flags&api.Rst > 0 {
		return nil
	}
	r := api.Seg{From: s.To, To: s.From, Seq: s.Ack, Flags: api.Rst}
	if s.Flags&api.Ack == 0 {
		n := len(s.Data)
		if s.Flags&api.Syn > 0 {
			n++
		}
		if s.Flags&api.Fin > 0 {
			n++
		}
		r.Seq, r.Ack, r.Flags = 0, s.Seq+uint32(n), api.Rst|api.Ack
	}
	return []string{x.segTo(h, r)}
}

func TestFlagsWithoutConnection(t *testing.T) {
	x := plainly(t)
	began := 0
	for flags := range 32 {
		for _, port := range []int{10, 11, 9, 0, 65535, 266} {
			for _, data := range []string{"", "x", text(536)} {
				for _, seq := range []uint32{0, 5, 1 << 31, 1<<32 - 1, 1<<32 - 2, 1<<32 - 537} {
					s := api.Seg{From: 7, To: port, Seq: seq, Ack: seq ^ 77, Flags: flags, Window: 1000, Data: data}
					if port != 10 || flags&^api.Psh != api.Syn {
						x.in(x.segFrom(a, s), x.refused(a, s)...)
						continue
					}
					began++
					c := &client{lab: x, host: a, port: 7, id: began, his: seq + 1, mine: seq ^ 99}
					x.Frame(x.segFrom(a, s), c.mine-1)
					x.wantOut(c.saysSyn())
					x.wantState(began, conn.SynIn)
					x.Abort(began)
					x.wantOut(c.says(api.Rst, 0, 0, 2048, ""))
				}
			}
		}
	}
	x.wantConns()
}

// A segment to another port has no connection, though one is there from the same port.
func TestFlagsToAnotherPort(t *testing.T) {
	x := plainly(t)
	c := x.client(a, 7, 1)
	c.open()
	for flags := range 32 {
		for _, port := range []int{11, 9, 0, 7, 65535, 266} {
			s := c.seg(flags, 0, 0, "data")
			s.To = port
			x.in(x.segFrom(a, s), x.refused(a, s)...)
		}
	}
	x.wantState(1, conn.Open)
	if n := x.Ready(1); n != 0 {
		t.Errorf("Ready: %d", n)
	}
	c.in(c.brings(api.Ack, 0, 0, "data"), c.says(0, 0, 4, 2044, ""))
}

// All that comes from a connection's other end comes there, whatever its flags.
func TestFlagsOfAConnection(t *testing.T) {
	for _, state := range states() {
		for flags := range 32 {
			for _, seq := range []int{0, 1, 5, -1, 3000} {
				x := plainly(t)
				c := x.client(a, 7, 1)
				c.bring(state)
				k := alike(t, x, c)
				s := c.seg(flags, seq, 0, "da")
				x.Frame(x.segFrom(a, s), 5)
				k.In(s)
				c.wantAlike(k)
				x.wantConns(c.conns(k)...)
			}
		}
	}
}

// states are all in which a connection is there.
func states() []int {
	return []int{conn.SynIn, conn.Open, conn.FinSent, conn.FinDone, conn.Both, conn.Linger, conn.Left, conn.LastOut}
}

// conns is the numbers that should be told, if k is the only connection.
func (c *client) conns(k *conn.Conn) []int {
	if k.State() == conn.SynIn || k.State() == conn.Gone {
		return nil
	}
	return []int{c.id}
}

// alike is a connection of layer 15 alone that was brought to where c's is.
func alike(t *testing.T, x *lab, c *client) *conn.Conn {
	t.Helper()
	k, e := conn.New(c.synSeg(), c.mine-1, x.n.Tcp)
	if e != api.OK {
		t.Fatalf("conn.New: %d", e)
	}
	state := x.State(c.id)
	if state != conn.SynIn {
		k.In(c.seg(api.Ack, 0, 0, ""))
	}
	switch state {
	case conn.FinSent, conn.FinDone, conn.Both, conn.Linger:
		k.Close()
	case conn.Left, conn.LastOut:
		k.In(c.seg(api.Ack|api.Fin, 0, 0, ""))
	}
	switch state {
	case conn.FinDone:
		k.In(c.seg(api.Ack, 0, 1, ""))
	case conn.Both:
		k.In(c.seg(api.Ack|api.Fin, 0, 0, ""))
	case conn.Linger:
		k.In(c.seg(api.Ack|api.Fin, 0, 1, ""))
	case conn.LastOut:
		k.Close()
	}
	if k.State() != state {
		t.Fatalf("it is %d, not %d", k.State(), state)
	}
	k.Out()
	return k
}

// wantAlike asks whether c's connection sent what k did, and stands as k does.
func (c *client) wantAlike(k *conn.Conn) {
	c.t.Helper()
	var want []string
	for _, s := range k.Out() {
		want = append(want, c.segTo(c.host, s))
	}
	c.wantOut(want...)
	c.wantState(c.id, k.State())
	if k.State() == conn.Gone {
		c.wantNobody(c.id)
		return
	}
	if got := []int{c.Ready(c.id), c.Room(c.id)}; !slices.Equal(got, []int{k.Ready(), k.Room()}) || c.Eof(c.id) != k.Eof() {
		c.t.Fatalf("Ready and Room: %v, want %d, %d", got, k.Ready(), k.Room())
	}
}

// Whose a connection is: an address and a port there, both.
func TestWhoseAConnectionIs(t *testing.T) {
	x := plainly(t)
	l := []*client{x.client(hostOf(1), 7, 1), x.client(hostOf(1), 8, 2), x.client(hostOf(2), 7, 3), x.client(hostOf(2), 8, 4)}
	for _, c := range l {
		c.open()
	}
	x.wantConns(1, 2, 3, 4)
	for i, c := range l {
		c.in(c.brings(api.Ack, 0, 0, text(i+1)), c.says(0, 0, i+1, 2047-i, ""))
	}
	for i, c := range l {
		if s := x.Read(c.id, 99); s != text(i+1) {
			t.Errorf("Read(%d): %q", c.id, s)
		}
	}
	for _, h := range []host{hostOf(1), hostOf(3)} {
		for _, port := range []int{6, 9, 7 + 256, 0} {
			c := x.client(h, port, 1)
			s := c.seg(api.Ack, 0, 0, "x")
			x.in(x.segFrom(h, s), x.refused(h, s)...)
		}
	}
}

// A connection may come from any port, from that with the number 0 as well, and from whatever Mac: that alone is learnt.
func TestConnectionsOfAnyPortAndMac(t *testing.T) {
	x := plainly(t)
	for i, port := range []int{0, 1, 10, 65535} {
		c := x.client(a, port, i+1)
		c.open()
	}
	x.wantConns(1, 2, 3, 4)
	c := x.client(otherMac(a), 10, 3)
	c.in(c.brings(api.Ack, 0, 0, "data"), c.says(0, 0, 4, 2044, ""))
}

func TestDraws(t *testing.T) {
	x := plainly(t)
	for i, draw := range []uint32{0, 1, 1 << 31, 1<<32 - 1, 1<<32 - 2, 0} {
		c := x.client(a, 7, i+1)
		c.mine = draw + 1
		x.Frame(c.bringsSyn(), draw)
		x.wantOut(c.saysSyn())
		x.Frame(c.brings(api.Ack, 0, 0, ""), draw+5)
		x.wantState(i+1, conn.Open)
		x.Abort(i + 1)
		x.wantOut(c.says(api.Rst, 0, 0, 2048, ""))
	}
}

// The Syn says how much a segment may have; its data do not count.
func TestSyns(t *testing.T) {
	for mss, n := range map[int]int{0: 536, 1: 1, 100: 100, 536: 536, 537: 536, 65535: 536} {
		x := plainly(t)
		c := x.client(a, 7, 1)
		syn := c.synSeg()
		syn.MSS, syn.Data, syn.Window = mss, "data", 1
		x.Frame(x.segFrom(a, syn), c.mine-1)
		x.wantOut(c.saysSyn())
		c.in(c.brings(api.Ack, 0, 0, ""))
		x.Write(1, text(n+1))
		want := []string{c.says(api.Psh, 0, 0, 2048, text(n)), c.says(api.Psh, n, 0, 2048, text(n + 1)[n:])}
		x.wantOut(want...)
	}
}

// Room

func TestBacklog(t *testing.T) {
	x := plainly(t)
	var l []*client
	for i := range 5 {
		l = append(l, x.client(hostOf(i), 7, i+1))
	}
	l[0].syn()
	l[1].syn()
	for i := 2; i < 5; i++ {
		x.drop(l[i].bringsSyn())
		x.drop(l[i].bringsSyn())
	}
	x.wantConns()
	x.wantState(3, conn.Gone)
	// Those that are there may ask again.
	l[0].in(l[0].bringsSyn(), l[0].says(0, 0, 0, 2048, ""))
	// What is no Syn is refused, as ever.
	s := l[2].seg(api.Ack, 0, 0, "")
	x.in(x.segFrom(l[2].host, s), x.refused(l[2].host, s)...)
	// As soon as one is open, another one may begin.
	l[1].in(l[1].brings(api.Ack, 0, 0, ""))
	l[2].syn()
	x.drop(l[3].bringsSyn())
	// So it may, when one is gone.
	x.Abort(1)
	x.wantOut(l[0].says(api.Rst, 0, 0, 2048, ""))
	l[3].syn()
	x.drop(l[4].bringsSyn())
	x.wantConns(2)
	l[3].in(l[3].brings(api.Rst, 0, 0, ""))
	x.wantState(4, conn.Gone)
	l[4].syn()
	x.wantConns(2)
	l[2].in(l[2].brings(api.Ack, 0, 0, ""))
	l[4].in(l[4].brings(api.Ack, 0, 0, ""))
	x.wantConns(2, 3, 5)
}

func TestBacklogThatGivesUp(t *testing.T) {
	n := usual()
	n.Tcp = api.Tcp{First: 3, Least: 3, Most: 3, Tries: 1, Linger: 5}
	x := labOf(t, n)
	c, d, e := x.client(hostOf(1), 7, 1), x.client(hostOf(2), 7, 2), x.client(hostOf(3), 7, 3)
	c.syn()
	x.quiet(1)
	d.syn()
	x.quiet(1)
	x.Tick()
	x.wantOut(c.saysSyn())
	x.Tick()
	x.wantOut(d.saysSyn())
	x.quiet(1)
	x.drop(e.bringsSyn())
	x.quiet(1)
	x.wantState(1, conn.Gone)
	x.wantState(2, conn.SynIn)
	e.syn()
	x.wantConns()
}

// fill lets connections be there, in these states, with the numbers from 1 on. Those that are SynIn are the last ones to begin, as two are at most.
func (x *lab) fill(states ...int) []*client {
	x.t.Helper()
	var l []*client
	for i, state := range states {
		c := x.client(hostOf(i), 7, i+1)
		c.bring(state)
		l = append(l, c)
	}
	return l
}

// When there are as many as may be, only one that lingers goes for another one, whatever state the others are in.
func TestFullOfEachState(t *testing.T) {
	for _, state := range states() {
		if state == conn.SynIn {
			continue
		}
		for at := range 4 {
			s := []int{conn.Open, conn.Left, conn.FinDone, conn.Both}
			s[at] = state
			x := plainly(t)
			x.fill(s...)
			next := x.client(a, 9, 5)
			if state != conn.Linger {
				x.drop(next.bringsSyn())
				x.wantConns(1, 2, 3, 4)
				x.wantState(5, conn.Gone)
				continue
			}
			next.syn()
			want := slices.Delete([]int{1, 2, 3, 4}, at, at+1)
			x.wantConns(want...)
			x.wantNobody(at + 1)
			next.in(next.brings(api.Ack, 0, 0, ""))
			x.wantConns(append(want, 5)...)
		}
	}
}

// Of several that linger the first one goes, that with the least number, whichever lingers longest; then the next one.
func TestSeveralLinger(t *testing.T) {
	for mask := range 16 {
		x := plainly(t)
		l := x.fill(conn.Open, conn.Open, conn.Open, conn.Open)
		there := []int{1, 2, 3, 4}
		for i := 3; i >= 0; i-- {
			if mask>>i&1 == 1 {
				l[i].shut(0)
				l[i].fin(1)
				x.wantState(i+1, conn.Linger)
				x.quiet(1)
			}
		}
		for id, next := 1, 5; id <= 4; id++ {
			c := x.client(a, 100+next, next)
			if mask>>(id-1)&1 == 0 {
				continue
			}
			c.open()
			next++
			there = append(slices.DeleteFunc(there, func(n int) bool { return n == id }), c.id)
			x.wantConns(there...)
		}
		x.drop(x.client(a, 200, 9).bringsSyn())
		x.wantConns(there...)
	}
}

// One that went for another one says nothing; who still speaks to it is refused.
func TestTheOneThatWent(t *testing.T) {
	x := plainly(t)
	l := x.fill(conn.Open, conn.Linger, conn.Open, conn.Open)
	next := x.client(a, 9, 5)
	next.syn()
	x.wantNobody(2)
	s := l[1].seg(api.Ack|api.Fin, 0, 1, "")
	x.in(x.segFrom(l[1].host, s), x.refused(l[1].host, s)...)
	// It may begin again, with a number of its own.
	l[1].id, l[1].mine = 6, 7777
	x.drop(l[1].bringsSyn())
	x.Abort(1)
	x.wantOut(l[0].says(api.Rst, 0, 0, 2048, ""))
	l[1].open()
	x.wantConns(3, 4, 6)
}

// Who still has to answer is no reason that one that lingers goes: who comes then is dropped at once.
func TestBacklogAheadOfLinger(t *testing.T) {
	for _, s := range [][]int{
		{conn.Linger, conn.Linger, conn.SynIn, conn.SynIn},
		{conn.Linger, conn.Open, conn.SynIn, conn.SynIn},
		{conn.Open, conn.Open, conn.SynIn, conn.SynIn},
		{conn.Linger, conn.SynIn, conn.SynIn},
		{conn.SynIn, conn.SynIn},
	} {
		x := plainly(t)
		x.fill(s...)
		next := x.client(a, 9, len(s)+1)
		x.drop(next.bringsSyn())
		for i, state := range s {
			x.wantState(i+1, state)
		}
		x.wantState(len(s)+1, conn.Gone)
	}
	// With one that is SynIn it goes.
	x := plainly(t)
	x.fill(conn.Open, conn.Linger, conn.Open, conn.SynIn)
	x.client(a, 9, 5).syn()
	x.wantState(2, conn.Gone)
	x.wantConns(1, 3)
}

// With room one that lingers stays.
func TestLingerWithRoom(t *testing.T) {
	x := plainly(t)
	x.fill(conn.Linger, conn.Open, conn.Linger)
	x.client(a, 9, 4).open()
	x.wantConns(1, 2, 3, 4)
	x.quiet(5)
	x.wantConns(2, 4)
	x.client(a, 10, 5).open()
	x.client(a, 11, 6).open()
	x.wantConns(2, 4, 5, 6)
}

// All that is there counts, also what has but a Syn.
func TestFullWithSyns(t *testing.T) {
	x := plainly(t)
	l := x.fill(conn.Open, conn.Open, conn.Open, conn.SynIn)
	next := x.client(a, 9, 5)
	x.drop(next.bringsSyn())
	x.wantConns(1, 2, 3)
	l[3].in(l[3].brings(api.Ack, 0, 0, ""))
	x.drop(next.bringsSyn())
	x.wantConns(1, 2, 3, 4)
	x.Abort(4)
	x.wantOut(l[3].says(api.Rst, 0, 0, 2048, ""))
	next.syn()
	x.drop(x.client(a, 8, 6).bringsSyn())
}

// Numbers are given once, and rise.
func TestNumbers(t *testing.T) {
	x := plainly(t)
	for id := 1; id <= 200; id++ {
		c := x.client(a, id%5, id)
		c.open()
		if id > 3 {
			x.Abort(id - 3)
			d := x.client(a, (id-3)%5, id-3)
			x.wantOut(d.says(api.Rst, 0, 0, 2048, ""))
			x.wantNobody(id - 3)
			x.wantConns(id-2, id-1, id)
		}
	}
}

// A frame to everybody that has a Syn in it begins a connection as well, and is answered to whom it is from.
func TestSynToEverybody(t *testing.T) {
	x := plainly(t)
	c := x.client(a, 7, 1)
	everybody := strings.Repeat("\xff", 6)
	x.Frame(everybody+c.bringsSyn()[6:], c.mine-1)
	x.wantOut(c.saysSyn())
	s := api.Seg{From: 5, To: 6, Seq: 7, Flags: api.Syn}
	x.in(everybody+x.segFrom(a, s)[6:], x.refused(a, s)...)
}
