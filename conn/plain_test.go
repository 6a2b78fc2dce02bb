package conn_test

import (
	"math/rand"
	"slices"
	"testing"

	"blockyard/api"
	"blockyard/conn"
	"blockyard/rto"
)

// plain does by other means what a connection does: it keeps all that was ever written and all that ever came, tells numbers from the first byte on, and moments from the beginning on, and works the state out of what happened.
type plain struct {
	o         api.Tcp
	his, mine uint32
	mss       int
	now       int

	written        string
	una, nxt, top  int
	opened, closed bool

	came       map[int]byte // his bytes by their places
	next, read int
	eof, first bool // first: his Fin came ahead of my Close

	window, tellSeq, tellAck int
	told                     int

	clock     *rto.Clock
	due       int // when the timer runs out; 0: never
	tries     int
	measuring bool
	end, born int
	until     int // when lingering ends

	ended, reset bool
	out          []api.Seg
}

func plainOf(o api.Tcp, mss int, his, mine uint32) *plain {
	clock, _ := rto.New(o.First, o.Least, o.Most)
	p := &plain{o: o, his: his, mine: mine, mss: mss, una: -1, came: map[int]byte{}, clock: clock, measuring: true}
	p.arm()
	p.say(api.Syn, -1, "")
	return p
}

const half = 1 << 31

// far is how far it is from a to b, below 0, if that is shorter the other way; half, if it is as far either way.
func far(a, b uint32) int {
	if d := int(int32(b - a)); d != -half {
		return d
	}
	return half
}

func (p *plain) arm() {
	p.due = p.now + p.clock.Wait()
}

func (p *plain) acked() bool {
	return p.closed && p.una == len(p.written)+1
}

func (p *plain) state() int {
	switch {
	case p.ended:
		return conn.Gone
	case !p.opened:
		return conn.SynIn
	case p.acked() && p.eof:
		return conn.Linger
	case p.acked():
		return conn.FinDone
	case p.closed && p.eof && p.first:
		return conn.LastOut
	case p.closed && p.eof:
		return conn.Both
	case p.closed:
		return conn.FinSent
	case p.eof:
		return conn.Left
	}
	return conn.Open
}

func (p *plain) room() int {
	return 2048 - (p.next - p.read)
}

func (p *plain) want() int {
	if p.eof {
		return p.next + 1
	}
	return p.next
}

func (p *plain) say(flags, seq int, data string) {
	s := api.Seg{From: 10, To: 9, Seq: p.mine + uint32(seq), Ack: p.his + uint32(p.want()), Flags: flags | api.Ack, Window: p.room(), Data: data}
	if flags == api.Syn {
		s.MSS = 536
	}
	p.told = p.room()
	p.out = append(p.out, s)
}

// counts asks of both ends of a segment whether it is one of the window's numbers.
func (p *plain) counts(seq uint32, length int) bool {
	want, width := p.his+uint32(p.want()), uint32(max(1, p.room()))
	if length == 0 {
		length = 1
	}
	return seq-want < width || seq+uint32(length)-1-want < width
}

func (p *plain) in(s api.Seg) {
	length := len(s.Data) + s.Flags&api.Syn/api.Syn + s.Flags&api.Fin/api.Fin
	rst := s.Flags&api.Rst > 0
	if p.state() == conn.Gone || !p.counts(s.Seq, length) && rst {
		return
	}
	if rst && s.Seq == p.his+uint32(p.want()) {
		p.ended, p.reset = true, true
		return
	}
	if !p.counts(s.Seq, length) || rst || s.Flags&api.Syn > 0 {
		p.say(0, p.nxt, "")
		return
	}
	if s.Flags&api.Ack == 0 {
		return
	}
	if p.opened {
		p.inOpened(s, length)
	} else if s.Ack == p.mine {
		p.opened = true
		p.window, p.tellSeq, p.tellAck = s.Window, p.next+far(p.his+uint32(p.next), s.Seq), 0
		p.inOpened(s, length)
	} else {
		p.out = append(p.out, api.Seg{From: 10, To: 9, Seq: s.Ack, Flags: api.Rst})
	}
}

func (p *plain) inOpened(s api.Seg, length int) {
	step := far(p.mine+uint32(p.una), s.Ack)
	if step >= 0 {
		if step > 0 && far(p.mine+uint32(p.top), s.Ack) > 0 && far(p.mine+uint32(p.top), s.Ack) < half {
			p.say(0, p.nxt, "")
			return
		}
		if step > 0 && step < half {
			p.take(p.una + step)
			step = 0
		}
		p.look(s, p.una+step)
	}
	if p.acked() && p.first {
		p.ended = true
	} else if p.acked() && p.eof && p.until == 0 {
		p.until = p.now + p.o.Linger
	}
	p.data(s)
	n := len(p.out)
	p.flush()
	if length > 0 && len(p.out) == n {
		p.say(0, p.nxt, "")
	}
}

// take takes in that all ahead of a number was acknowledged.
func (p *plain) take(una int) {
	p.una = una
	p.nxt = max(p.nxt, una)
	if p.measuring && p.end <= una {
		p.measuring = false
		p.clock.Measure(p.now - p.born)
	}
	p.tries, p.due = 0, 0
	if una != p.top {
		p.arm()
	}
}

// look looks at the window that s tells, whose Ack is not old.
func (p *plain) look(s api.Seg, ack int) {
	seq := far(p.his+uint32(p.tellSeq), s.Seq)
	if seq < 0 || seq == half {
		return
	}
	if seq == 0 && far(p.mine+uint32(p.tellAck), s.Ack) < 0 {
		return
	}
	if p.window == 0 && s.Window != 0 && p.nxt == p.una {
		p.due = 0
	}
	p.window, p.tellSeq, p.tellAck = s.Window, p.tellSeq+seq, ack
}

func (p *plain) data(s api.Seg) {
	at := p.next + far(p.his+uint32(p.next), s.Seq)
	room := p.next + p.room()
	for i := range len(s.Data) {
		if _, here := p.came[at+i]; !here && !p.eof && at+i >= p.next && at+i < room {
			p.came[at+i] = s.Data[i]
		}
	}
	for !p.eof && p.next < room {
		if _, here := p.came[p.next]; !here {
			break
		}
		p.next++
	}
	if s.Flags&api.Fin == 0 {
		return
	}
	if !p.eof && at+len(s.Data) == p.next {
		p.eof, p.first = true, !p.closed
	}
	if p.state() == conn.Linger {
		p.until = p.now + p.o.Linger
	}
}

func (p *plain) flush() {
	if p.ended || !p.opened || p.acked() {
		return
	}
	for p.nxt < len(p.written) && p.nxt-p.una < p.window {
		p.piece(p.window - (p.nxt - p.una))
	}
	if p.closed && p.nxt == len(p.written) && p.nxt-p.una < p.window {
		p.fin()
	}
	waits := p.nxt < len(p.written) || p.closed && p.nxt == len(p.written)
	if waits && p.nxt == p.una && p.due == 0 {
		p.arm()
	}
}

func (p *plain) piece(most int) {
	to := min(p.nxt+most, p.nxt+p.mss, len(p.written))
	p.say(api.Psh, p.nxt, p.written[p.nxt:to])
	p.went(to)
}

func (p *plain) fin() {
	p.say(api.Fin, p.nxt, "")
	p.went(p.nxt + 1)
}

func (p *plain) went(nxt int) {
	p.nxt = nxt
	if nxt > p.top {
		p.top = nxt
		if !p.measuring {
			p.measuring, p.end, p.born = true, nxt, p.now
		}
	}
	if p.due == 0 {
		p.arm()
	}
}

func (p *plain) tick() {
	if p.ended {
		return
	}
	p.now++
	if p.state() == conn.Linger && p.now == p.until {
		p.ended = true
		return
	}
	if p.due == p.now {
		p.ranOut()
	}
}

func (p *plain) ranOut() {
	asks := p.opened && p.una == p.top
	if !asks && (!p.opened || p.window != 0) {
		p.tries++
	}
	if !asks && p.tries > p.o.Tries {
		if p.opened {
			p.say(api.Rst, p.top, "")
		}
		p.ended, p.reset = true, true
		return
	}
	p.clock.Back()
	p.arm()
	switch {
	case asks:
		p.say(0, p.una-1, "")
		return
	case !p.opened:
		p.say(api.Syn, -1, "")
	default:
		p.again()
	}
	p.measuring = false
}

func (p *plain) again() {
	p.nxt = p.una
	most := p.window
	if most == 0 {
		most = 1
	}
	if p.una < len(p.written) && most > 0 {
		p.piece(most)
	} else if p.una == len(p.written) {
		p.fin()
	}
}

func (p *plain) takes() bool {
	return !p.ended && !p.closed
}

func (p *plain) write(s string) int {
	if !p.takes() {
		return 0
	}
	n := min(len(s), p.left())
	p.written += s[:n]
	p.flush()
	return n
}

// left is how many bytes may be written.
func (p *plain) left() int {
	return 2048 - (len(p.written) - max(0, min(p.una, len(p.written))))
}

func (p *plain) close() {
	if p.takes() {
		p.closed = true
		p.flush()
	}
}

func (p *plain) abort() {
	if !p.ended {
		p.say(api.Rst, p.top, "")
		p.ended = true
	}
}

func (p *plain) probe() {
	if s := p.state(); s != conn.SynIn && s != conn.Linger && s != conn.Gone {
		p.say(0, p.una-1, "")
	}
}

func (p *plain) readSome(n int) string {
	var b []byte
	for len(b) < n && p.read < p.next {
		b = append(b, p.came[p.read])
		p.read++
	}
	if !p.ended && p.opened && !p.eof && p.told < 536 && p.room() >= 536 {
		p.say(0, p.nxt, "")
	}
	return string(b)
}

// pair is a connection, and a plain one beside it.
type pair struct {
	t *testing.T
	c *conn.Conn
	p *plain
	// last is what was sent at last.
	last []api.Seg
}

func pairOf(t *testing.T, o api.Tcp, mss int, his, mine uint32) *pair {
	t.Helper()
	x := &pair{t: t, c: begun(t, o, mss, his, mine), p: plainOf(o, mss, his, mine)}
	x.same("New", false)
	return x
}

// begun is one whose first segment is not taken out.
func begun(t *testing.T, o api.Tcp, mss int, his, mine uint32) *conn.Conn {
	t.Helper()
	c, e := conn.New(first(his, mss), mine-1, o)
	if e != api.OK {
		t.Fatal(o, mss, e)
	}
	return c
}

// same holds that both sent the same, and stand alike, and that what was sent is what was written, and had room, unless the timer sent it.
func (x *pair) same(what string, timer bool) {
	x.t.Helper()
	l, want := x.c.Out(), x.p.out
	x.p.out = nil
	if !slices.Equal(l, want) {
		x.t.Fatalf("%s: sent %v, not %v", what, l, want)
	}
	p, c := x.p, x.c
	if c.State() != p.state() || c.Reset() != p.reset {
		x.t.Fatalf("%s: State %d, Reset %v, not %d, %v", what, c.State(), c.Reset(), p.state(), p.reset)
	}
	if c.Ready() != p.next-p.read || c.Eof() != (p.eof && p.next == p.read) {
		x.t.Fatalf("%s: Ready %d, Eof %v, not %d, %v", what, c.Ready(), c.Eof(), p.next-p.read, p.eof)
	}
	room := 0
	if p.takes() {
		room = p.left()
	}
	if c.Room() != room {
		x.t.Fatalf("%s: Room %d, not %d", what, c.Room(), room)
	}
	for _, s := range l {
		x.right(what, timer, s)
	}
	x.last = l
}

// right holds that a segment has the bytes that were written under its numbers, and that they are inside the window, unless the timer sent them.
func (x *pair) right(what string, timer bool, s api.Seg) {
	x.t.Helper()
	at := int(int32(s.Seq - x.p.mine))
	to := at + len(s.Data)
	if s.Data != "" && (at < 0 || to > len(x.p.written) || s.Data != x.p.written[at:to] || len(s.Data) > x.p.mss) {
		x.t.Fatalf("%s: %v has not what was written", what, s)
	}
	if s.Flags&api.Fin > 0 {
		if !x.p.closed || to != len(x.p.written) {
			x.t.Fatalf("%s: %v is not where all ends", what, s)
		}
		to++
	}
	if to > at && !timer && to > x.p.una+x.p.window {
		x.t.Fatalf("%s: %v is farther from %d than %d", what, s, x.p.una, x.p.window)
	}
}

func (x *pair) in(s api.Seg) {
	x.t.Helper()
	x.c.In(s)
	x.p.in(s)
	x.same("In", false)
}

func (x *pair) tick() {
	x.t.Helper()
	x.c.Tick()
	x.p.tick()
	x.same("Tick", true)
}

func (x *pair) write(s string) int {
	x.t.Helper()
	n, want := x.c.Write(s), x.p.write(s)
	if n != want {
		x.t.Fatalf("Write(%d bytes): %d, not %d", len(s), n, want)
	}
	x.same("Write", false)
	return n
}

func (x *pair) read(n int) string {
	x.t.Helper()
	s, want := x.c.Read(n), x.p.readSome(n)
	if s != want {
		x.t.Fatalf("Read(%d): %q, not %q", n, s, want)
	}
	x.same("Read", false)
	return s
}

func (x *pair) close() {
	x.t.Helper()
	x.c.Close()
	x.p.close()
	x.same("Close", false)
}

func (x *pair) abort() {
	x.t.Helper()
	x.c.Abort()
	x.p.abort()
	x.same("Abort", false)
}

func (x *pair) probe() {
	x.t.Helper()
	x.c.Probe()
	x.p.probe()
	x.same("Probe", false)
}

// seg is a segment that comes, its numbers told from what is wanted, and from una.
func (x *pair) seg(flags, seq, ack, window int, data string) api.Seg {
	return api.Seg{From: 9, To: 10, Seq: x.p.his + uint32(x.p.want()+seq), Ack: x.p.mine + uint32(x.p.una+ack), Flags: flags, Window: window, Data: data}
}

// P15.2 to P15.5, all short lists of calls

// shortCalls are calls that change most, small ones.
func shortCalls() []func(x *pair) {
	return []func(x *pair){
		func(x *pair) { x.tick() },
		func(x *pair) { x.write("abc") },
		func(x *pair) { x.close() },
		func(x *pair) { x.in(x.seg(api.Ack, 0, 1, 2, "")) },
		func(x *pair) { x.in(x.seg(api.Ack, 0, 2, 0, "x")) },
		func(x *pair) { x.in(x.seg(api.Ack, 1, 0, 9, "y")) },
		func(x *pair) { x.in(x.seg(api.Ack|api.Fin, 0, 0, 0, "")) },
		func(x *pair) { x.in(x.seg(api.Ack|api.Fin, 0, x.p.top-x.p.una, 3, "")) },
		func(x *pair) { x.in(x.seg(api.Ack, -1, 1, 7, "")) },
		func(x *pair) { x.in(x.seg(api.Ack, 0, 0, 4, "")) },
		func(x *pair) { x.in(x.seg(api.Ack, 0, x.p.top-x.p.una, 1, "")) },
		func(x *pair) { x.tick(); x.tick(); x.tick() },
	}
}

func TestAllShortLists(t *testing.T) {
	calls := shortCalls()
	n := len(calls)
	o := api.Tcp{First: 1, Least: 1, Most: 3, Tries: 1, Linger: 2}
	for list := range n * n * n * n * n {
		x := pairOf(t, o, 2, 1<<32-1, 1<<32-2)
		x.in(x.seg(api.Ack, 0, 1, 2, ""))
		l := list
		for range 5 {
			calls[l%n](x)
			l /= n
		}
		x.read(9)
	}
}

// Also from the very beginning.
func TestAllShortListsInSynIn(t *testing.T) {
	calls := shortCalls()
	n := len(calls)
	o := api.Tcp{First: 2, Least: 1, Most: 3, Tries: 1, Linger: 2}
	for list := range n * n * n * n {
		x := pairOf(t, o, 2, 0, 3)
		l := list
		for range 4 {
			calls[l%n](x)
			l /= n
		}
		x.read(9)
	}
}

// P15.2 to P15.6, many calls

// some makes calls by chance.
type some struct {
	*pair
	r *rand.Rand
	// wild is how often of 100 times a number is any, windows how wide they are.
	wild, windows int
}

func (x *some) wildly() bool {
	return x.r.Intn(100) < x.wild
}

func (x *some) flags() int {
	switch x.r.Intn(60) {
	case 0:
		if x.wildly() {
			return x.r.Intn(32)
		}
	case 1:
		return api.Ack | api.Psh
	case 2:
		return api.Ack | api.Fin
	}
	return api.Ack
}

// seq is told from what is wanted.
func (x *some) seq() int {
	if !x.wildly() {
		return 0
	}
	switch x.r.Intn(6) {
	case 0:
		return x.r.Intn(2500) - 200
	case 1:
		return x.p.room() + x.r.Intn(5) - 2
	case 2:
		return half + x.r.Intn(5000) - 2500
	case 3:
		return int(x.r.Uint32())
	}
	return x.r.Intn(21) - 10
}

// ack is told from una.
func (x *some) ack() int {
	if !x.wildly() {
		return x.r.Intn(x.p.top-x.p.una+1) * x.r.Intn(2)
	}
	switch x.r.Intn(7) {
	case 0:
		return x.r.Intn(21) - 10
	case 1:
		return x.p.top - x.p.una + x.r.Intn(5) - 2
	case 2:
		return half + x.r.Intn(5000) - 2500
	case 3:
		return int(x.r.Uint32())
	case 4:
		return half
	}
	return x.p.top - x.p.una
}

func (x *some) width() int {
	switch x.r.Intn(8) {
	case 0:
		return 0
	case 1:
		if x.wildly() {
			return x.r.Intn(200000) - 100000
		}
	case 2:
		return x.r.Intn(4)
	}
	return x.r.Intn(x.windows + 1)
}

// text is some text, seldom long.
func (x *some) text() string {
	n := 0
	switch x.r.Intn(4) {
	case 0:
		n = x.r.Intn(10)
	case 1:
		n = x.r.Intn(700)
	}
	at := x.r.Intn(100)
	return text(at + n)[at:]
}

func (x *some) call() {
	x.t.Helper()
	switch x.r.Intn(20) {
	case 0, 1, 2, 3, 4, 5, 6, 7:
		data := x.text()
		if x.r.Intn(3) > 0 {
			data = ""
		}
		x.in(x.seg(x.flags(), x.seq(), x.ack(), x.width(), data))
	case 8, 9, 10, 11:
		for range 1 + x.r.Intn(4)*x.r.Intn(4) {
			x.tick()
		}
	case 12, 13, 14:
		x.write(x.text())
	case 15, 16:
		x.read(x.r.Intn(800) - 10)
	case 17:
		x.probe()
	case 18:
		if x.r.Intn(20) == 0 {
			x.close()
		}
	case 19:
		if x.r.Intn(500) == 0 {
			x.abort()
		}
	}
}

func someTcp(r *rand.Rand) api.Tcp {
	least := 1 + r.Intn(4)
	first := least + r.Intn(8)
	return api.Tcp{First: first, Least: least, Most: first + r.Intn(30), Tries: 1 + r.Intn(8), Linger: 1 + r.Intn(20)}
}

func TestManyCallsBesideAPlainOne(t *testing.T) {
	seen := map[int]int{}
	for seed := range int64(3000) {
		r := rand.New(rand.NewSource(seed))
		s := starts()[r.Intn(len(starts()))]
		x := &some{pairOf(t, someTcp(r), []int{1, 7, 100, 536}[r.Intn(4)], s[0], s[1]), r, []int{0, 3, 20, 60}[r.Intn(4)], []int{10, 200, 3000}[r.Intn(3)]}
		for range 250 {
			x.call()
			seen[x.c.State()]++
			if x.c.State() == conn.Gone && r.Intn(10) == 0 {
				break
			}
		}
	}
	for state := conn.SynIn; state <= conn.Gone; state++ {
		if seen[state] < 2000 {
			t.Errorf("too seldom it is in the state %d: %d times", state, seen[state])
		}
	}
}
