package stack_test

import (
	"math"
	"slices"
	"testing"

	"blockyard/api"
	"blockyard/conn"
	"blockyard/stack"
)

// a is the one of the chapter's examples.
var a = host{api.Mac{2, 0, 0, 0, 0, 1}, api.IP{10, 0, 0, 1}}

// What the chapter's examples have, as bytes that were worked out apart from the program.
const (
	asksForIt  = "ff ff ff ff ff ff 02 00 00 00 00 01 08 06 00 01 08 00 06 04 00 01 02 00 00 00 00 01 0a 00 00 01 00 00 00 00 00 00 0a 00 00 02"
	itAnswers  = "02 00 00 00 00 01 02 00 00 00 00 02 08 06 00 01 08 00 06 04 00 02 02 00 00 00 00 02 0a 00 00 02 02 00 00 00 00 01 0a 00 00 01"
	itsSyn     = "02 00 00 00 00 02 02 00 00 00 00 01 08 00 45 00 00 28 00 00 00 00 05 06 a1 ce 0a 00 00 01 0a 00 00 02 00 09 00 0a 00 00 00 64 00 00 00 00 50 02 03 e8 97 81 00 00"
	synAck     = "02 00 00 00 00 01 02 00 00 00 00 02 08 00 45 00 00 2c 00 00 00 00 40 06 66 ca 0a 00 00 02 0a 00 00 01 00 0a 00 09 00 00 02 bc 00 00 00 65 60 12 08 00 7c 7c 00 00 02 04 02 18"
	itsAck     = "02 00 00 00 00 02 02 00 00 00 00 01 08 00 45 00 00 28 00 01 00 00 05 06 a1 cd 0a 00 00 01 0a 00 00 02 00 09 00 0a 00 00 00 65 00 00 02 bd 50 10 03 e8 94 b5 00 00"
	hello      = "02 00 00 00 00 01 02 00 00 00 00 02 08 00 45 00 00 2d 00 01 00 00 40 06 66 c8 0a 00 00 02 0a 00 00 01 00 0a 00 09 00 00 02 bd 00 00 00 65 50 18 08 00 4c be 00 00 68 65 6c 6c 6f"
	synTo11    = "02 00 00 00 00 02 02 00 00 00 00 01 08 00 45 00 00 28 00 02 00 00 05 06 a1 cc 0a 00 00 01 0a 00 00 02 00 09 00 0b 00 00 00 64 00 00 00 00 50 02 03 e8 97 80 00 00"
	rstAck     = "02 00 00 00 00 01 02 00 00 00 00 02 08 00 45 00 00 28 00 01 00 00 40 06 66 cd 0a 00 00 02 0a 00 00 01 00 0b 00 09 00 00 00 00 00 00 00 65 50 14 00 00 9b 55 00 00"
	strayAck   = "02 00 00 00 00 02 02 00 00 00 00 01 08 00 45 00 00 29 00 03 00 00 05 06 a1 ca 0a 00 00 01 0a 00 00 02 00 08 00 0a 00 00 00 05 00 00 00 4d 50 10 03 e8 1f 85 00 00 78"
	rst        = "02 00 00 00 00 01 02 00 00 00 00 02 08 00 45 00 00 28 00 01 00 00 40 06 66 cd 0a 00 00 02 0a 00 00 01 00 0a 00 08 00 00 00 4d 00 00 00 00 50 04 00 00 9b 7f 00 00"
	itsPing    = "02 00 00 00 00 02 02 00 00 00 00 01 08 00 45 00 00 20 00 07 00 00 05 01 a1 d4 0a 00 00 01 0a 00 00 02 08 00 19 2a 00 00 00 05 70 69 6e 67"
	pong       = "02 00 00 00 00 01 02 00 00 00 00 02 08 00 45 00 00 20 00 00 00 00 40 01 66 db 0a 00 00 02 0a 00 00 01 00 00 21 2a 00 00 00 05 70 69 6e 67"
	itsUdp     = "02 00 00 00 00 02 02 00 00 00 00 01 08 00 45 00 00 24 00 07 00 00 05 11 a1 c0 0a 00 00 01 0a 00 00 02 75 64 70 20 64 61 74 61 2c 20 6c 6f 6e 67 65 72"
	notThere   = "02 00 00 00 00 01 02 00 00 00 00 02 08 00 45 00 00 38 00 00 00 00 40 01 66 c3 0a 00 00 02 0a 00 00 01 03 02 3e b6 00 00 00 00 45 00 00 24 00 07 00 00 05 11 a1 c0 0a 00 00 01 0a 00 00 02 75 64 70 20 64 61 74 61"
	itAsksForA = "ff ff ff ff ff ff 02 00 00 00 00 02 08 06 00 01 08 00 06 04 00 01 02 00 00 00 00 02 0a 00 00 02 00 00 00 00 00 00 0a 00 00 01"
)

func ofExamples(t *testing.T) *lab {
	n := usual()
	n.Age = 100
	return labOf(t, n)
}

func TestExamples(t *testing.T) {
	x := ofExamples(t)
	x.Frame(unhex(asksForIt), 0)
	x.wantOut(unhex(itAnswers))
	x.Frame(unhex(itsSyn), 700)
	x.wantOut(unhex(synAck))
	x.wantConns()
	x.Frame(unhex(itsAck), 0)
	x.wantConns(1)
	x.wantState(1, 2)
	x.Frame(unhex(synTo11), 0)
	x.wantOut(unhex(rstAck))
	x.Frame("ab", 0)
	x.drops = 1
	x.wantDrops()
	if s := x.Read(7, 9); s != "" {
		t.Errorf("Read(7, 9): %q", s)
	}
	x.wantState(7, 9)
	x.wantOut()
}

func TestOtherFramesAsBytes(t *testing.T) {
	x := ofExamples(t)
	x.Frame(unhex(itsPing), 0)
	x.wantOut(unhex(pong))

	x = ofExamples(t)
	x.drop(unhex(itsUdp), unhex(notThere))

	x = ofExamples(t)
	x.Frame(unhex(itsSyn), 700)
	x.Frame(unhex(strayAck), 0)
	x.wantOut(unhex(synAck), unhex(rst))

	x = ofExamples(t)
	x.Frame(unhex(itsSyn), 700)
	x.Frame(unhex(itsAck), 0)
	if n := x.Write(1, "hello"); n != 5 {
		t.Errorf("Write: %d", n)
	}
	x.wantOut(unhex(synAck), unhex(hello))

	n := usual()
	n.Age = 1
	x = labOf(t, n)
	x.Frame(unhex(itsSyn), 700)
	x.Frame(unhex(itsAck), 0)
	x.wantOut(unhex(synAck))
	x.Tick()
	x.Write(1, "hello")
	x.wantOut(unhex(itAsksForA))
}

// fields are those of a Net that have bounds, with the least and the greatest value of each, the others being as usual.
func fields() []struct {
	name        string
	of          func(n *api.Net) *int
	least, most int
} {
	return []struct {
		name        string
		of          func(n *api.Net) *int
		least, most int
	}{
		{"Port", func(n *api.Net) *int { return &n.Port }, 1, 65535},
		{"Age", func(n *api.Net) *int { return &n.Age }, 1, 1 << 20},
		{"Parts", func(n *api.Net) *int { return &n.Parts }, 1, 1 << 20},
		{"Tries", func(n *api.Net) *int { return &n.Tcp.Tries }, 1, 100},
		{"Linger", func(n *api.Net) *int { return &n.Tcp.Linger }, 1, 1 << 20},
		{"Least", func(n *api.Net) *int { return &n.Tcp.Least }, 1, 10},
		{"First", func(n *api.Net) *int { return &n.Tcp.First }, 2, 60},
		{"Most", func(n *api.Net) *int { return &n.Tcp.Most }, 10, 1 << 20},
	}
}

// wantNew asks whether New answers a stack, or an error and none.
func wantNew(t *testing.T, n api.Net, ok bool) {
	t.Helper()
	s, e := stack.New(n)
	if ok && (e != api.OK || s == nil) || !ok && (e != api.ErrArg || s != nil) {
		t.Errorf("New(%v): %v, %d", n, s, e)
	}
}

func TestNewBounds(t *testing.T) {
	for _, f := range fields() {
		for _, x := range []int{math.MinInt, -1 << 32, -65536, -1, 0, 1, 2, 9, 10, 11, 59, 60, 61, 99, 100, 101, 65535, 65536, 1<<20 - 1, 1 << 20, 1<<20 + 1, 1<<32 + 10, math.MaxInt, f.least - 1, f.least, f.most, f.most + 1} {
			n := usual()
			*f.of(&n) = x
			wantNew(t, n, x >= f.least && x <= f.most)
			// One that is right makes no other one right.
			for _, g := range fields() {
				if g.name != f.name && g.name != "Least" && g.name != "First" && g.name != "Most" {
					m := n
					*g.of(&m) = 0
					wantNew(t, m, false)
				}
			}
		}
	}
	wantNew(t, api.Net{}, false)
}

func TestNewOfAnyAddress(t *testing.T) {
	for _, m := range []api.Mac{{}, {1}, {255, 255, 255, 255, 255, 255}, {5: 1}} {
		for _, i := range []api.IP{{}, {127, 0, 0, 1}, {255, 255, 255, 255}} {
			n := usual()
			n.Mac, n.IP = m, i
			wantNew(t, n, true)
			x := labOf(t, n)
			x.ping(hostOf(1))
			x.client(hostOf(1), 7, 1).open()
		}
	}
}

func TestNewHasNothing(t *testing.T) {
	x := plainly(t)
	x.wantOut()
	x.wantConns()
	for id := -2; id <= 6; id++ {
		x.wantNobody(id)
	}
	x.wantOut()
	x.quiet(100)
}

// wantNobody asks each call of a number of which there is no connection.
func (x *lab) wantNobody(id int) {
	x.t.Helper()
	x.Close(id)
	x.Abort(id)
	if s := x.Read(id, 9); s != "" {
		x.t.Errorf("Read(%d): %q", id, s)
	}
	if n := x.Write(id, "some"); n != 0 {
		x.t.Errorf("Write(%d): %d", id, n)
	}
	if n := x.Room(id); n != 0 {
		x.t.Errorf("Room(%d): %d", id, n)
	}
	if n := x.Ready(id); n != 0 {
		x.t.Errorf("Ready(%d): %d", id, n)
	}
	if !x.Eof(id) {
		x.t.Errorf("Eof(%d): false", id)
	}
	x.wantState(id, conn.Gone)
}

func TestEachPortIsServed(t *testing.T) {
	for _, port := range []int{1, 2, 255, 256, 32768, 65534, 65535} {
		n := usual()
		n.Port = port
		x := labOf(t, n)
		x.client(hostOf(1), 7, 1).open()
		for _, other := range []int{0, 1, port - 1, port + 1, port ^ 256, 65535} {
			if other == port || other > 65535 {
				continue
			}
			s := api.Seg{From: 8, To: other, Seq: 5, Flags: api.Syn}
			x.in(x.segFrom(hostOf(1), s), x.segTo(hostOf(1), api.Seg{From: other, To: 8, Ack: 6, Flags: api.Rst | api.Ack}))
		}
		x.wantConns(1)
	}
}

// nobodys are stacks that New did not make. The last one is a copy of one that it made, which has a connection and drops.
func nobodys(t *testing.T) []*lab {
	x := plainly(t)
	x.client(hostOf(1), 7, 1).open()
	x.Frame("ab", 0)
	x.Frame(x.segFrom(hostOf(1), api.Seg{From: 9, To: 11, Flags: api.Syn}), 0)
	copied := *x.Stack
	return []*lab{{t: t, n: usual()}, {t: t, n: usual(), Stack: &stack.Stack{}}, {t: t, n: usual(), Stack: &copied}}
}

func TestOfNone(t *testing.T) {
	for _, x := range nobodys(t) {
		c := x.client(hostOf(1), 7, 1)
		for _, f := range []string{"", "ab", c.bringsSyn(), c.brings(api.Ack, 0, 0, "data"), x.arpFrom(hostOf(1), x.n.Mac, 1, x.n.IP), x.icmpFrom(hostOf(1), api.Icmp{Kind: 8})} {
			x.Frame(f, 5)
			x.wantOut()
		}
		for id := -1; id <= 3; id++ {
			x.wantNobody(id)
		}
		x.quiet(200)
		x.wantConns()
	}
}

// A copy that is asked touches nothing of what it was copied from.
func TestCopyIsNone(t *testing.T) {
	x := plainly(t)
	c := x.client(hostOf(1), 7, 1)
	c.open()
	c.in(c.brings(api.Ack, 0, 0, "data"), c.says(0, 0, 4, 2044, ""))
	c.Write(1, "out")
	want := c.says(api.Psh, 0, 4, 2044, "out")
	copied := *x.Stack
	y := lab{t: t, n: x.n, Stack: &copied}
	y.wantNobody(1)
	y.Frame(c.brings(api.Ack, 4, 0, "more"), 0)
	y.Frame(c.brings(api.Rst, 4, 0, ""), 0)
	y.quiet(100)
	x.wantOut(want)
	x.wantConns(1)
	x.wantState(1, conn.Open)
	if s := x.Read(1, 99); s != "data" {
		t.Errorf("Read: %q", s)
	}
}

func TestOutIsNew(t *testing.T) {
	x := plainly(t)
	for i := range 3 {
		x.Frame(x.icmpFrom(hostOf(i), api.Icmp{Kind: 8}), 0)
	}
	want := []string{x.icmpTo(hostOf(0), api.Icmp{}), x.icmpTo(hostOf(1), api.Icmp{}), x.icmpTo(hostOf(2), api.Icmp{})}
	got := x.Out()
	x.wantOut()
	x.ping(hostOf(4))
	x.Frame(x.icmpFrom(hostOf(5), api.Icmp{Kind: 8}), 0)
	next := x.icmpTo(hostOf(5), api.Icmp{})
	if !slices.Equal(got, want) {
		t.Errorf("Out:\n%s", told(got))
	}
	got = append(got[:1], "mine", "too")
	x.wantOut(next)
	if !slices.Equal(got, []string{want[0], "mine", "too"}) {
		t.Errorf("what was answered: %s", told(got))
	}
}

func TestConnsIsNew(t *testing.T) {
	x := plainly(t)
	for i := range 3 {
		x.client(hostOf(i), 7, i+1).open()
	}
	got := x.Conns()
	got[0], got[2] = 8, 9
	_ = append(got[:1], 7, 7)
	x.wantConns(1, 2, 3)
	x.Abort(2)
	if !slices.Equal(got, []int{8, 7, 7}) {
		t.Errorf("what was answered: %v", got)
	}
}

func TestStacksKnowNothingOfOneAnother(t *testing.T) {
	x, y := plainly(t), plainly(t)
	c, d := x.client(hostOf(1), 7, 1), y.client(hostOf(1), 7, 1)
	c.open()
	d.wantNobody(1)
	y.wantConns()
	d.open()
	x.Write(1, "ab")
	y.Frame("ab", 0)
	y.drops++
	y.wantOut()
	x.wantOut(c.says(api.Psh, 0, 0, 2048, "ab"))
	x.Abort(1)
	y.wantConns(1)
	y.wantState(1, conn.Open)
	x.wantState(1, conn.Gone)
}
