package conn_test

import (
	"math"
	"slices"
	"strings"
	"testing"

	"blockyard/api"
	"blockyard/conn"
)

// usual is how most connections here wait.
func usual() api.Tcp {
	return api.Tcp{First: 10, Least: 2, Most: 60, Tries: 3, Linger: 5}
}

// text is the first n bytes of a stream in which no two stretches are alike that are near one another.
func text(n int) string {
	b := make([]byte, n)
	for i := range n {
		b[i] = byte(i*167 + i/251)
	}
	return string(b)
}

// end is a connection. All numbers are told from his first byte on, or from mine: his Syn and mine have -1.
type end struct {
	t *testing.T
	*conn.Conn
	his, mine uint32
	mss       int
}

// starts are the numbers of both first bytes: the edges, and some from which the numbers soon go round.
func starts() [][2]uint32 {
	const last = math.MaxUint32
	return [][2]uint32{
		{101, 501}, {0, 0}, {1, 1}, {last, last}, {last - 1, last - 2}, {last - 60, last - 150}, {last - 2000, 7}, {7, last - 2000},
		{1 << 31, 1 << 31}, {1<<31 - 1, 1<<31 - 1}, {1<<31 - 50, 1<<31 - 120}, {1 << 31, 0}, {0, 1 << 31},
	}
}

// first is a Syn with the Seq ahead of his.
func first(his uint32, mss int) api.Seg {
	return api.Seg{From: 9, To: 10, Seq: his - 1, Flags: api.Syn, Window: 1000, MSS: mss}
}

// made is one that has sent its Syn, and nothing else.
func made(t *testing.T, o api.Tcp, mss int, his, mine uint32) *end {
	t.Helper()
	c, e := conn.New(first(his, mss), mine-1, o)
	if e != api.OK || c == nil {
		t.Fatalf("New: %v, %d", c, e)
	}
	x := &end{t: t, Conn: c, his: his, mine: mine, mss: mss}
	x.wantState(conn.SynIn)
	x.wantOut(x.syn())
	return x
}

// plainly is a connection with everyday numbers.
func plainly(t *testing.T) *end {
	t.Helper()
	return made(t, usual(), 100, 101, 501)
}

// open is one that is Open, with so wide a window. As its Syn is acknowledged at once its wait is 2.
func open(t *testing.T, window int) *end {
	t.Helper()
	x := plainly(t)
	x.in(0, 0, window, "")
	x.wantState(conn.Open)
	x.wantOut()
	return x
}

// slow is one that is Open, and whose wait is 12: the ack of its Syn took 4 ticks.
func slow(t *testing.T, window int) *end {
	t.Helper()
	x := plainly(t)
	x.quiet(4)
	x.in(0, 0, window, "")
	x.wantOut()
	return x
}

// everywhere does f with a connection that has just begun, from all starts.
func everywhere(t *testing.T, f func(x *end)) {
	t.Helper()
	for _, s := range starts() {
		f(made(t, usual(), 100, s[0], s[1]))
	}
}

// What comes

func (x *end) seg(flags, seq, ack, window int, data string) api.Seg {
	return api.Seg{From: 9, To: 10, Seq: x.his + uint32(seq), Ack: x.mine + uint32(ack), Flags: flags, Window: window, Data: data}
}

// in lets a segment with Ack come.
func (x *end) in(seq, ack, window int, data string) {
	x.In(x.seg(api.Ack, seq, ack, window, data))
}

// inFin lets one with Fin come.
func (x *end) inFin(seq, ack, window int, data string) {
	x.In(x.seg(api.Ack|api.Fin, seq, ack, window, data))
}

// inFlags lets one with any flags come.
func (x *end) inFlags(flags, seq, ack int) {
	x.In(x.seg(flags, seq, ack, 1000, ""))
}

// What is sent

func (x *end) says(flags, seq, ack, window int, data string) api.Seg {
	return api.Seg{From: 10, To: 9, Seq: x.mine + uint32(seq), Ack: x.his + uint32(ack), Flags: flags | api.Ack, Window: window, Data: data}
}

func (x *end) syn() api.Seg {
	s := x.says(api.Syn, -1, 0, 2048, "")
	s.MSS = 536
	return s
}

// ack is a segment without anything.
func (x *end) ack(seq, ack, window int) api.Seg {
	return x.says(0, seq, ack, window, "")
}

func (x *end) data(seq, ack, window int, data string) api.Seg {
	return x.says(api.Psh, seq, ack, window, data)
}

func (x *end) fin(seq, ack, window int) api.Seg {
	return x.says(api.Fin, seq, ack, window, "")
}

func (x *end) rst(seq, ack, window int) api.Seg {
	return x.says(api.Rst, seq, ack, window, "")
}

// refusal is a segment with Rst alone.
func (x *end) refusal(seq int) api.Seg {
	return api.Seg{From: 10, To: 9, Seq: x.mine + uint32(seq), Flags: api.Rst}
}

// wantOut holds that these were sent since the last time, and nothing else.
func (x *end) wantOut(want ...api.Seg) {
	x.t.Helper()
	if l := x.Out(); !slices.Equal(l, want) {
		x.t.Fatalf("from %d, %d: sent %v, not %v", x.his, x.mine, l, want)
	}
	if l := x.Out(); len(l) != 0 {
		x.t.Fatalf("Out again: %v", l)
	}
}

func (x *end) wantState(state int) {
	x.t.Helper()
	if s := x.State(); s != state {
		x.t.Fatalf("from %d, %d: the state is %d, not %d", x.his, x.mine, s, state)
	}
}

func (x *end) wantReset(reset bool) {
	x.t.Helper()
	if r := x.Reset(); r != reset {
		x.t.Fatalf("Reset: %v, not %v", r, reset)
	}
}

func (x *end) wantGone(reset bool) {
	x.t.Helper()
	x.wantState(conn.Gone)
	x.wantReset(reset)
}

// wantWrite holds that n bytes of s are taken.
func (x *end) wantWrite(s string, n int) {
	x.t.Helper()
	if w := x.Write(s); w != n {
		x.t.Fatalf("Write(%d bytes): %d, not %d", len(s), w, n)
	}
}

func (x *end) wantRead(n int, want string) {
	x.t.Helper()
	if s := x.Read(n); s != want {
		x.t.Fatalf("Read(%d): %q, not %q", n, s, want)
	}
}

func (x *end) wantReady(n int, eof bool) {
	x.t.Helper()
	if x.Ready() != n || x.Eof() != eof {
		x.t.Fatalf("Ready %d, Eof %v, not %d, %v", x.Ready(), x.Eof(), n, eof)
	}
}

func (x *end) wantRoom(n int) {
	x.t.Helper()
	if r := x.Room(); r != n {
		x.t.Fatalf("Room: %d, not %d", r, n)
	}
}

// quiet holds that n ticks go by, and nothing is sent, nor does the state change.
func (x *end) quiet(n int) {
	x.t.Helper()
	state := x.State()
	for i := range n {
		x.Tick()
		if l := x.Out(); len(l) != 0 || x.State() != state {
			x.t.Fatalf("tick %d of %d that should be quiet: sent %v, the state is %d, not %d", i+1, n, l, x.State(), state)
		}
	}
}

// inTicks holds that these are sent at the n-th tick from now, and nothing ahead of it.
func (x *end) inTicks(n int, want ...api.Seg) {
	x.t.Helper()
	x.quiet(n - 1)
	x.Tick()
	x.wantOut(want...)
}

// The chapter's examples

func TestExamples(t *testing.T) {
	c, e := conn.New(api.Seg{From: 9, To: 10, Seq: 100, Flags: api.Syn, Window: 1000, MSS: 100}, 500, usual())
	if e != api.OK {
		t.Fatal(e)
	}
	x := &end{t: t, Conn: c}
	x.wantOut(api.Seg{From: 10, To: 9, Seq: 500, Ack: 101, Flags: api.Syn | api.Ack, Window: 2048, MSS: 536})
	x.wantState(1)

	c.In(api.Seg{Seq: 101, Ack: 501, Flags: api.Ack, Window: 1000})
	x.wantState(2)
	c.In(api.Seg{Seq: 101, Ack: 501, Flags: api.Ack, Window: 1000, Data: "hi"})
	x.wantOut(api.Seg{From: 10, To: 9, Seq: 501, Ack: 103, Flags: api.Ack, Window: 2046})
	x.wantReady(2, false)
	x.wantRead(9, "hi")

	x.wantWrite("ok", 2)
	x.wantOut(api.Seg{From: 10, To: 9, Seq: 501, Ack: 103, Flags: api.Ack | api.Psh, Window: 2048, Data: "ok"})
	c.Close()
	x.wantState(3)
	x.wantOut(api.Seg{From: 10, To: 9, Seq: 503, Ack: 103, Flags: api.Ack | api.Fin, Window: 2048})

	c.In(api.Seg{Seq: 103, Ack: 504, Flags: api.Ack | api.Fin})
	x.wantState(6)
	x.wantOut(api.Seg{From: 10, To: 9, Seq: 504, Ack: 104, Flags: api.Ack, Window: 2048})
	x.quiet(4)
	c.Tick()
	x.wantGone(false)
	x.wantOut()
}

// P15.1

func TestNewAnswersAtOnce(t *testing.T) {
	everywhere(t, func(x *end) {
		x.wantState(conn.SynIn)
		x.wantReset(false)
		x.wantReady(0, false)
		x.wantRoom(2048)
		x.wantRead(9, "")
		x.in(0, 0, 1000, "")
		x.wantState(conn.Open)
		x.wantOut()
	})
}

func TestNewTakesItsPorts(t *testing.T) {
	for _, ports := range [][2]int{{0, 0}, {1, 65535}, {65535, 1}, {-1, 1 << 40}} {
		c, e := conn.New(api.Seg{From: ports[0], To: ports[1], Flags: api.Syn}, 7, usual())
		want := api.Seg{From: ports[1], To: ports[0], Seq: 7, Ack: 1, Flags: api.Syn | api.Ack, Window: 2048, MSS: 536}
		if l := c.Out(); e != api.OK || len(l) != 1 || l[0] != want {
			t.Fatal(ports, l, e)
		}
		c.In(api.Seg{From: 3, To: 4, Seq: 1, Ack: 8, Flags: api.Ack, Data: "a"}) // whatever its ports
		want = api.Seg{From: ports[1], To: ports[0], Seq: 8, Ack: 2, Flags: api.Ack, Window: 2047}
		if l := c.Out(); len(l) != 1 || l[0] != want {
			t.Fatal(ports, l)
		}
		c.In(api.Seg{Seq: 2, Ack: 9, Flags: api.Ack, Data: "b"})
		c.Abort()
		for _, s := range c.Out() {
			if s.From != ports[1] || s.To != ports[0] {
				t.Fatal(ports, s)
			}
		}
	}
}

func TestNewLooksAtAllFlags(t *testing.T) {
	for flags := -70; flags < 140; flags++ {
		may := flags&api.Syn != 0 && flags&api.Ack == 0 && flags&api.Rst == 0 && flags&api.Fin == 0
		c, e := conn.New(api.Seg{Seq: 1, Flags: flags}, 1, usual())
		if may != (e == api.OK) || may != (c != nil) || !may && e != api.ErrArg {
			t.Errorf("New with Flags %d: %v, %d", flags, c, e)
		}
	}
}

func TestNewLooksAtHowItWaits(t *testing.T) {
	const longest = 1 << 20
	good := []api.Tcp{
		{First: 1, Least: 1, Most: 1, Tries: 1, Linger: 1}, {First: longest, Least: longest, Most: longest, Tries: 100, Linger: longest},
		{First: 1, Least: 1, Most: longest, Tries: 2, Linger: 2}, {First: 5, Least: 4, Most: 6, Tries: 99, Linger: longest - 1},
	}
	for _, o := range good {
		if c, e := conn.New(first(1, 0), 1, o); e != api.OK || c == nil {
			t.Errorf("New with %v: %d", o, e)
		}
	}
	bad := []api.Tcp{
		{}, {First: 5, Least: 0, Most: 6, Tries: 3, Linger: 3}, {First: 5, Least: -1, Most: 6, Tries: 3, Linger: 3},
		{First: 5, Least: 6, Most: 7, Tries: 3, Linger: 3}, {First: 5, Least: 4, Most: 4, Tries: 3, Linger: 3},
		{First: 0, Least: 0, Most: 6, Tries: 3, Linger: 3}, {First: 5, Least: 4, Most: longest + 1, Tries: 3, Linger: 3},
		{First: longest + 1, Least: 4, Most: longest + 1, Tries: 3, Linger: 3}, {First: 5, Least: math.MinInt, Most: math.MaxInt, Tries: 3, Linger: 3},
		{First: math.MinInt, Least: math.MinInt, Most: math.MinInt, Tries: 3, Linger: 3},
	}
	for _, x := range []int{0, -1, math.MinInt, 101, 102, math.MaxInt} {
		bad = append(bad, api.Tcp{First: 5, Least: 4, Most: 6, Tries: x, Linger: 3})
	}
	for _, x := range []int{0, -1, math.MinInt, longest + 1, longest + 2, math.MaxInt} {
		bad = append(bad, api.Tcp{First: 5, Least: 4, Most: 6, Tries: 3, Linger: x})
	}
	for _, o := range bad {
		if c, e := conn.New(first(1, 0), 1, o); e != api.ErrArg || c != nil {
			t.Errorf("New with %v: %v, %d", o, c, e)
		}
	}
}

func TestNewDoesNotCountTheSynsData(t *testing.T) {
	for _, s := range starts() {
		syn := first(s[0], 100)
		syn.Data = text(700)
		syn.Flags |= api.Psh
		c, e := conn.New(syn, s[1]-1, usual())
		if e != api.OK {
			t.Fatal(e)
		}
		x := &end{t: t, Conn: c, his: s[0], mine: s[1]}
		x.wantOut(x.syn())
		x.wantReady(0, false)
		x.in(0, 0, 1000, "ab")
		x.wantOut(x.ack(0, 2, 2046))
		x.wantRead(9, "ab")
	}
}

func TestNewTakesTheMSS(t *testing.T) {
	for told, mss := range map[int]int{0: 536, 1: 1, 2: 2, 99: 99, 535: 535, 536: 536, 537: 536, 1460: 536, 65535: 536, math.MaxInt: 536, -1: 536, math.MinInt: 536} {
		x := made(t, usual(), told, 1, 1)
		x.in(0, 0, 2*mss+mss/2, "")
		x.wantWrite(text(1900), 1900)
		want := []api.Seg{x.data(0, 0, 2048, text(mss)), x.data(mss, 0, 2048, text(2 * mss)[mss:])}
		if mss > 1 {
			want = append(want, x.data(2*mss, 0, 2048, text(2*mss + mss/2)[2*mss:]))
		}
		x.wantOut(want...)
	}
}

// The Syn's own Window says nothing: that of the segment that acknowledges mine counts.
func TestNewDoesNotTakeTheSynsWindow(t *testing.T) {
	for _, window := range []int{0, 1, 1000, 65535} {
		syn := first(1, 100)
		syn.Window = window
		c, _ := conn.New(syn, 0, usual())
		x := &end{t: t, Conn: c, his: 1, mine: 1}
		x.wantOut(x.syn())
		x.in(0, 0, 3, "")
		x.wantWrite("abcdef", 6)
		x.wantOut(x.data(0, 0, 2048, "abc"))
	}
}

// The measure that New begins is of all ticks up to the ack.
func TestNewBeginsAMeasure(t *testing.T) {
	for ticks, wait := range map[int]int{0: 2, 1: 3, 2: 6, 3: 9, 4: 12, 9: 27} {
		x := plainly(t)
		x.quiet(ticks)
		x.in(0, 0, 1000, "")
		x.wantWrite("a", 1)
		x.wantOut(x.data(0, 0, 2048, "a"))
		x.inTicks(wait, x.data(0, 0, 2048, "a"))
	}
}

// Of none

func wantNone(t *testing.T, c *conn.Conn) {
	t.Helper()
	for range 2 {
		c.In(api.Seg{Seq: 101, Ack: 501, Flags: api.Ack, Window: 1000, Data: "hi"})
		c.In(api.Seg{Seq: 101, Flags: api.Rst})
		c.Tick()
		if n, s := c.Write("abc"), c.Read(9); n != 0 || s != "" {
			t.Errorf("Write %d, Read %q", n, s)
		}
		c.Probe()
		c.Close()
		c.Abort()
		if c.State() != conn.Gone || c.Ready() != 0 || c.Room() != 0 || len(c.Out()) != 0 {
			t.Errorf("State %d, Ready %d, Room %d", c.State(), c.Ready(), c.Room())
		}
		if !c.Eof() || c.Reset() {
			t.Errorf("Eof %v, Reset %v", c.Eof(), c.Reset())
		}
	}
}

func TestNone(t *testing.T) {
	wantNone(t, nil)
	wantNone(t, &conn.Conn{})
	wantNone(t, new(conn.Conn))
}

// A copy would share its buffers with the first one: it is none, and the first one goes on.
func TestACopyIsNone(t *testing.T) {
	x := open(t, 1000)
	x.in(0, 0, 1000, "abc")
	x.wantWrite("xyz", 3)
	copied := *x.Conn
	wantNone(t, &copied)
	x.wantState(conn.Open)
	x.wantReady(3, false)
	x.wantOut(x.ack(0, 3, 2045), x.data(0, 3, 2045, "xyz"))
	x.wantRead(9, "abc")
}

// R3, R4

func TestConnectionsKnowNothingOfOneAnother(t *testing.T) {
	x, y := plainly(t), plainly(t)
	x.in(0, 0, 1000, "abc")
	y.wantState(conn.SynIn)
	y.wantOut()
	x.wantWrite("hello", 5)
	y.wantRoom(2048)
	y.wantReady(0, false)
	x.Close()
	y.in(0, 0, 1000, "")
	y.wantState(conn.Open)
	y.wantWrite("x", 1)
	y.wantOut(y.data(0, 0, 2048, "x"))
	x.wantOut(x.ack(0, 3, 2045), x.data(0, 3, 2045, "hello"), x.fin(5, 3, 2045))
	y.Abort()
	x.wantState(conn.FinSent)
}

func TestConnectionsThatAreUsedAlikeAreAlike(t *testing.T) {
	var all [][]api.Seg
	for range 3 {
		x := plainly(t)
		x.in(0, 0, 150, "abc")
		x.Write(text(900))
		for range 500 {
			x.Tick()
		}
		all = append(all, x.Out())
	}
	if !slices.Equal(all[0], all[1]) || !slices.Equal(all[0], all[2]) || len(all[0]) < 5 {
		t.Fatal(all)
	}
}

// What Out answered stays as it is, and can be changed without any harm.
func TestWhatWasSentIsNewMemory(t *testing.T) {
	x := open(t, 1000)
	x.wantWrite("abc", 3)
	x.wantWrite("def", 3)
	l := x.Out()
	was := slices.Clone(l)
	x.wantWrite("ghi", 3)
	x.Close()
	if !slices.Equal(l, was) {
		t.Fatal(l, was)
	}
	l = append(l, l...)
	clear(l)
	x.wantOut(x.data(6, 0, 2048, "ghi"), x.fin(9, 0, 2048))
	x.inTicks(2, x.data(0, 0, 2048, "abcdefghi"))
}

func TestOutTwice(t *testing.T) {
	x := open(t, 1000)
	x.wantOut()
	x.wantWrite("abc", 3)
	x.in(0, 0, 1000, "z")
	if n := len(x.Out()); n != 2 {
		t.Fatal(n)
	}
	for range 3 {
		if l := x.Out(); len(l) != 0 {
			t.Fatal(l)
		}
	}
	x.Abort()
	x.wantOut(x.rst(3, 1, 2047))
	x.wantOut()
}

// R1: a text as long as may be handed in changes nothing beyond what there is room for.
func TestLongTexts(t *testing.T) {
	x := open(t, 65535)
	long := strings.Repeat(text(1<<16), 3)
	x.in(0, 0, 65535, long)
	x.wantOut(x.ack(0, 2048, 0))
	x.wantRead(math.MaxInt, long[:2048])
	x.wantOut(x.ack(0, 2048, 2048))
	x.wantWrite(long, 2048)
	if l := x.Out(); len(l) != 21 {
		t.Fatal(len(l))
	}
	x.wantRoom(0)
}
