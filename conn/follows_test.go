package conn_test

import (
	"math/rand"
	"strings"
	"testing"

	"blockyard/api"
	"blockyard/conn"
	"blockyard/rto"
)

// other is the other end, as one should be: it takes what comes, in whatever order, answers what has a length or is not what it waits for, and sends again what is not acknowledged.
type other struct {
	his, mine      uint32
	text           string // what it sends
	closes         bool   // with its Fin behind that
	una, nxt, top  int
	window         int // what it may send
	got            []byte
	held           map[int]byte // what lies behind a gap
	fin, broken    bool
	room, unread   int
	patience, wait int // how many ticks go by till it sends again
	out            []api.Seg
}

func (y *other) want() int {
	if y.fin {
		return len(y.got) + 1
	}
	return len(y.got)
}

func (y *other) say(flags, seq int, data string) {
	y.out = append(y.out, api.Seg{From: 9, To: 10, Seq: y.his + uint32(seq), Ack: y.mine + uint32(y.want()), Flags: flags | api.Ack, Window: y.room - y.unread, Data: data})
}

func (y *other) in(s api.Seg) {
	at, ack := int(int32(s.Seq-y.mine)), int(int32(s.Ack-y.his))
	if s.Flags&api.Rst > 0 {
		y.broken = true
		return
	}
	if ack >= y.una && ack <= y.top {
		if ack > y.una {
			y.wait = y.patience
		}
		y.una, y.nxt, y.window = ack, max(y.nxt, ack), s.Window
	}
	was := y.want()
	y.take(at, s.Data)
	if s.Flags&api.Fin > 0 && at+len(s.Data) == len(y.got) {
		y.fin = true
	}
	if s.Flags&api.Syn > 0 || s.Flags&api.Fin > 0 || s.Data != "" || at != was {
		y.say(0, y.nxt, "")
	}
}

func (y *other) take(at int, data string) {
	for i := range len(data) {
		if at+i >= len(y.got) && at+i < len(y.got)+y.room-y.unread {
			y.held[at+i] = data[i]
		}
	}
	for {
		b, here := y.held[len(y.got)]
		if !here {
			return
		}
		delete(y.held, len(y.got))
		y.got = append(y.got, b)
		y.unread++
	}
}

// send sends what there is room for, in pieces of n bytes at most, and its Fin.
func (y *other) send(n int) {
	for y.nxt < len(y.text) && y.nxt < y.una+y.window {
		to := min(len(y.text), y.una+y.window, y.nxt+n)
		y.say(api.Psh, y.nxt, y.text[y.nxt:to])
		y.nxt = to
	}
	if y.closes && y.nxt == len(y.text) {
		y.say(api.Fin, y.nxt, "")
		y.nxt++
	}
	y.top = max(y.top, y.nxt)
}

// tick lets it send again, when its patience is over: one byte, if there is no room.
func (y *other) tick() {
	if y.una == y.top && y.nxt >= len(y.text) {
		y.wait = y.patience
		return
	}
	y.wait--
	if y.wait > 0 {
		return
	}
	y.wait = y.patience
	y.nxt = y.una
	if y.window == 0 && y.nxt < len(y.text) {
		y.say(api.Psh, y.nxt, y.text[y.nxt:y.nxt+1])
		y.nxt++
		y.top = max(y.top, y.nxt)
	}
}

// read lets n bytes of what it got be read; it says so, if there was no room.
func (y *other) read(n int) {
	was := y.room - y.unread
	y.unread -= min(n, y.unread)
	if was == 0 && y.unread < y.room {
		y.say(0, y.nxt, "")
	}
}

// wire brings segments over, some late, some twice, some not at all; from a moment on all.
type wire struct {
	r                *rand.Rand
	now, fair        int
	lost, twice, far int
	under            []bring
}

type bring struct {
	at int
	s  api.Seg
}

func (w *wire) put(l []api.Seg) {
	for _, s := range l {
		if w.now < w.fair && w.r.Intn(100) < w.lost {
			continue
		}
		w.under = append(w.under, bring{w.now + 1 + w.r.Intn(w.far), s})
		if w.r.Intn(100) < w.twice {
			w.under = append(w.under, bring{w.now + 1 + w.r.Intn(w.far), s})
		}
	}
}

// take is what comes at this moment.
func (w *wire) take() []api.Seg {
	var l []api.Seg
	var rest []bring
	for _, b := range w.under {
		if b.at <= w.now {
			l = append(l, b.s)
		} else {
			rest = append(rest, b)
		}
	}
	w.now++
	w.under = rest
	return l
}

// talk is a connection, the other end, and the wires between them.
type talk struct {
	*pair
	y          *other
	to, from   *wire
	r          *rand.Rand
	text       string // what is to be written
	written    int
	got        strings.Builder
	lingers    int
	closeAt    int // when either side closes, at the earliest
	otherClose int
	silent     int // up to then the other end's user reads nothing
}

func someTalk(t *testing.T, seed int64) *talk {
	r := rand.New(rand.NewSource(seed))
	s := starts()[r.Intn(len(starts()))]
	o := api.Tcp{First: 5 + r.Intn(10), Least: 1 + r.Intn(5), Most: 20 + r.Intn(40), Tries: 100, Linger: 1 + r.Intn(50)}
	p := pairOf(t, o, []int{1, 50, 536}[r.Intn(3)], s[0], s[1])
	lost, twice, slow := []int{0, 10, 40}[r.Intn(3)], []int{0, 20}[r.Intn(2)], []int{1, 3, 20}[r.Intn(3)]
	y := &other{his: s[0], mine: s[1], text: text(r.Intn(4000)), room: 1 + r.Intn(3000), patience: 10 + r.Intn(40), window: 2048, held: map[int]byte{}}
	y.wait = y.patience
	x := &talk{
		pair: p, y: y, r: r, text: text(10 + r.Intn(4000))[10:],
		to: &wire{r: r, fair: 20000, lost: lost, twice: twice, far: slow}, from: &wire{r: r, fair: 20000, lost: lost, twice: twice, far: slow},
		closeAt: r.Intn(600), otherClose: r.Intn(600), silent: r.Intn(2) * r.Intn(400),
	}
	x.to.put(x.last)
	return x
}

// carry puts on the wire what was sent by the last call.
func (x *talk) carry() {
	x.to.put(x.last)
	x.last = nil
}

// users does what both sides' users do at a moment.
func (x *talk) users(now int) {
	if x.r.Intn(3) == 0 && x.written < len(x.text) {
		n := x.write(x.text[x.written:min(len(x.text), x.written+x.r.Intn(600))])
		x.written += n
		x.carry()
	}
	if now > x.closeAt && x.written == len(x.text) {
		x.close()
		x.carry()
	}
	if x.r.Intn(4) == 0 {
		x.got.WriteString(x.read(x.r.Intn(500)))
		x.carry()
	}
	if now > x.silent && x.r.Intn(4) == 0 {
		x.y.read(x.r.Intn(500))
	}
	if now > x.otherClose {
		x.y.closes = true
	}
	if x.r.Intn(100) == 0 {
		x.probe()
		x.carry()
	}
}

// step is one moment.
func (x *talk) step(now int) {
	x.users(now)
	for _, s := range x.to.take() {
		x.y.in(s)
	}
	x.y.send(1 + x.r.Intn(536))
	x.from.put(x.y.out)
	x.y.out = nil
	for _, s := range x.from.take() {
		x.in(s)
		x.carry()
	}
	if x.c.State() == conn.Linger {
		x.lingers++
	}
	x.tick()
	x.carry()
	x.y.tick()
	if !strings.HasPrefix(x.y.text, x.got.String()) {
		x.t.Fatal("what is read is not a beginning of what was sent")
	}
	if !strings.HasPrefix(x.text, string(x.y.got)) {
		x.t.Fatal("what came over is not a beginning of what was written")
	}
}

// P15.6, P15.7

// On whatever wire, all that is written and sent comes over, and when both sides are closed it is Gone.
func TestAllComesOver(t *testing.T) {
	lingered, last := 0, 0
	for seed := range int64(250) {
		x := someTalk(t, seed)
		now := 0
		for x.c.State() != conn.Gone && now < 60000 {
			x.step(now)
			now++
		}
		x.got.WriteString(x.read(9999))
		if x.c.State() != conn.Gone || x.c.Reset() || x.y.broken {
			t.Fatalf("%d: behind %d ticks the state is %d, reset %v", seed, now, x.c.State(), x.c.Reset())
		}
		if x.got.String() != x.y.text || !x.c.Eof() {
			t.Fatalf("%d: %d of %d bytes were read", seed, x.got.Len(), len(x.y.text))
		}
		if string(x.y.got) != x.text || !x.y.fin {
			t.Fatalf("%d: %d of %d bytes came over", seed, len(x.y.got), len(x.text))
		}
		if x.lingers > x.p.o.Linger {
			t.Fatalf("%d: it lingered %d ticks, not %d", seed, x.lingers, x.p.o.Linger)
		}
		if x.lingers > 0 {
			lingered++
		} else {
			last++
		}
	}
	if lingered < 50 || last < 50 {
		t.Fatal("too seldom one side closes first:", lingered, last)
	}
}

// waits is how many ticks all tries take, for one whose clock stands so.
func waits(c *rto.Clock, tries int) int {
	n := 0
	for range tries + 1 {
		n += c.Wait()
		c.Back()
	}
	return n
}

// wantGoneIn holds that it is reset behind n ticks, and not ahead of them.
func (x *end) wantGoneIn(n int) {
	x.t.Helper()
	for range n - 1 {
		x.Tick()
	}
	if x.State() == conn.Gone {
		x.t.Fatalf("it is Gone ahead of %d ticks", n)
	}
	x.Tick()
	x.wantGone(true)
}

func TestOneThatNobodyAnswers(t *testing.T) {
	for seed := range int64(300) {
		r := rand.New(rand.NewSource(seed))
		o := someTcp(r)
		clock, _ := rto.New(o.First, o.Least, o.Most)
		made(t, o, 100, 1, 1).wantGoneIn(waits(clock, o.Tries))

		x := made(t, o, 100, 1, 1)
		clock, _ = rto.New(o.First, o.Least, o.Most)
		age := r.Intn(o.First)
		x.quiet(age)
		x.in(0, 0, 1+r.Intn(3000), "")
		clock.Measure(age)
		x.quiet(r.Intn(100))
		if n := r.Intn(1000); n > 0 {
			x.wantWrite(text(n), n)
		}
		if r.Intn(2) == 0 || x.Room() == 2048 {
			x.Close()
		}
		x.Out()
		x.wantGoneIn(waits(clock, o.Tries))
		if l := x.Out(); l[len(l)-1].Flags != api.Rst|api.Ack {
			t.Fatal(l[len(l)-1])
		}
	}
}

// asking is one that something waits in, or is out and not acknowledged, while the other end says that it has no room.
func asking(t *testing.T, window, written int, closed bool) *end {
	t.Helper()
	x := open(t, window)
	x.wantWrite(text(written), written)
	if closed {
		x.Close()
	}
	x.Out()
	x.in(0, 0, 0, "")
	x.wantOut()
	return x
}

// While the other end says that it has no room it is asked for ever, at the latest behind the most that it waits.
func TestItAsksForEver(t *testing.T) {
	for _, window := range []int{0, 1, 5, 50, 51} {
		for _, written := range []int{0, 1, 50} {
			for _, closed := range []bool{false, true} {
				if written == 0 && !closed {
					continue // there is nothing to be asked for
				}
				x := asking(t, window, written, closed)
				state := x.State()
				for range 2000 {
					for range 60 {
						x.Tick()
					}
					if len(x.Out()) == 0 {
						t.Fatal("it does not ask any more")
					}
				}
				x.wantState(state)
			}
		}
	}
}
