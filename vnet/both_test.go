package vnet_test

import (
	"math/rand"
	"slices"
	"testing"

	"blockyard/api"
	"blockyard/mem"
	"blockyard/vnet"
)

// P4.6

// anyFrame is one that may go, at the edges of that mostly.
func anyFrame(r *rand.Rand) string {
	k := []int{14, 15, 599, 600, 14 + r.Intn(587)}[r.Intn(5)]
	return frameOf(k, r.Intn(256))
}

// model is a driver, a device as it should be, and the frames on their way.
type model struct {
	t           *testing.T
	r           *rand.Rand
	n           *vnet.Nic
	p           *vnet.Port
	gone, come  []string
	slots       int // how many of what comes are delivered and not received, the dropped ones too
	drops, full int
}

func (x *model) send() {
	s := anyFrame(x.r)
	if len(x.gone) == 8 {
		wantSend(x.t, x.n, api.ErrFull, s)
		x.full++
		return
	}
	wantSends(x.t, x.n, s)
	x.gone = append(x.gone, s)
}

func (x *model) sent() {
	wantSent(x.t, x.p, x.gone...)
	x.gone = nil
}

func (x *model) deliver() {
	s := anyFrame(x.r)
	if x.r.Intn(4) == 0 {
		s = frameOf(x.r.Intn(14), 1)
	}
	if x.slots == 8 {
		wantDeliver(x.t, x.p, api.ErrFull, s)
		x.full++
		return
	}
	wantDelivers(x.t, x.p, s)
	x.slots++
	if len(s) < 14 {
		x.drops++
	} else {
		x.come = append(x.come, s)
	}
}

func (x *model) receive() {
	wantReceive(x.t, x.n, x.come...)
	wantCounts(x.t, x.n, x.drops, 0)
	x.come, x.slots = nil, 0
}

func (x *model) wrong() {
	wantSend(x.t, x.n, api.ErrShort, frameOf(x.r.Intn(14), 1))
	wantSend(x.t, x.n, api.ErrLong, frameOf(601+x.r.Intn(20), 1))
	wantDeliver(x.t, x.p, api.ErrLong, frameOf(601+x.r.Intn(20), 1))
}

func TestAllGoesAndComesOnce(t *testing.T) {
	for base := 0; base < 64; base += 16 {
		_, n, p := pair(t, base)
		x := &model{t: t, r: rand.New(rand.NewSource(int64(base))), n: n, p: p}
		acts := []func(){x.send, x.send, x.send, x.send, x.deliver, x.deliver, x.deliver, x.deliver, x.sent, x.receive, x.wrong}
		for range 20000 {
			acts[x.r.Intn(len(acts))]()
		}
		x.sent()
		x.receive()
		if x.full == 0 {
			t.Error("it was never full: the test shows one half alone")
		}
	}
}

func TestIndicesGoRound(t *testing.T) {
	m, n, p := pair(t, 0)
	for i := range 65536 + 40 {
		s := string([]byte{byte(i), byte(i >> 8)}) + noughts(12)
		wantSends(t, n, s)
		wantDelivers(t, p, s)
		wantSent(t, p, s)
		wantReceive(t, n, s)
	}
	wantCounts(t, n, 0, 0)
	for at, want := range map[int]uint64{comesOffered: 48, comesUsed: 40, goes + comesOffered: 40, goesUsed: 40} {
		if x, _ := m.Get(at+2, 2); x != want {
			t.Errorf("the index at %d: %d, not %d", at, x, want)
		}
	}
}

func TestAllBuffersGoRound(t *testing.T) {
	_, n, p := pair(t, 0)
	frames := framesOf(8)
	for range 8192 + 5 {
		wantSends(t, n, frames...)
		wantSend(t, n, api.ErrFull, frames[0])
		wantDelivers(t, p, frames...)
		wantDeliver(t, p, api.ErrFull, frames[0])
		wantSent(t, p, frames...)
		wantReceive(t, n, frames...)
	}
	wantCounts(t, n, 0, 0)
}

// spoil writes something into the driver's bytes, as a device might: numbers that are near to what is right, mostly.
func spoil(r *rand.Rand, m *mem.Mem, base int) {
	queue := base + goes*r.Intn(2)
	near := uint64(r.Intn(18))
	switch r.Intn(9) {
	case 0:
		m.Put(queue+comesUsed+2, 2, near)
	case 1:
		m.Put(queue+comesUsed+4+8*r.Intn(8), 4, near)
	case 2:
		m.Put(queue+comesUsed+8+8*r.Intn(8), 4, []uint64{0, 11, 12, 25, 26, 612, 613, r.Uint64()}[r.Intn(8)])
	case 3:
		m.Put(queue+comesOffered+2, 2, near)
	case 4:
		m.Put(queue+comesOffered+4+2*r.Intn(8), 2, near)
	case 5:
		m.Put(queue+16*r.Intn(8)+8, 4, []uint64{0, 11, 12, 612, 613, 5000, r.Uint64()}[r.Intn(7)])
	case 6:
		m.Put(queue+16*r.Intn(8)+12, 2, near)
	case 7:
		m.Put(base+buffers+bufSize*r.Intn(16)+r.Intn(12), 1, near)
	default:
		m.Put(base+r.Intn(vnet.Size-7), 1+r.Intn(8), r.Uint64())
	}
}

// hostile is a driver, a device that writes anything, and what must hold all the same.
type hostile struct {
	t             *testing.T
	r             *rand.Rand
	m             *mem.Mem
	base          int
	n             *vnet.Nic
	p             *vnet.Port
	drops, resets int
}

// quiet does something that must not touch bytes beside the driver's.
func (x *hostile) quiet(act func()) {
	old := all(x.t, x.m)
	act()
	if got := all(x.t, x.m); got[:x.base] != old[:x.base] || got[x.base+vnet.Size:] != old[x.base+vnet.Size:] {
		x.t.Fatal("bytes beside the driver's are changed")
	}
}

func (x *hostile) receive() {
	l := x.n.Receive()
	if len(l) > 8 {
		x.t.Fatalf("%d frames at once", len(l))
	}
	for _, s := range l {
		if len(s) < 14 || len(s) > 600 {
			x.t.Fatalf("a frame of %d bytes", len(s))
		}
	}
	drops, resets := x.n.Drops()-x.drops, x.n.Resets()-x.resets
	if drops < resets || drops+len(l) > 8+resets || resets < 0 || resets > 1 {
		x.t.Fatalf("%d frames, %d drops, %d resets at once", len(l), drops, resets)
	}
	x.drops, x.resets = x.n.Drops(), x.n.Resets()
}

func (x *hostile) send() {
	e := x.n.Send(anyFrame(x.r))
	resets := x.n.Resets() - x.resets
	if e != api.OK && e != api.ErrFull || resets < 0 || resets > 1 || resets == 1 && e != api.OK || x.n.Drops() != x.drops {
		x.t.Fatalf("Send: %d, %d resets", e, resets)
	}
	x.resets = x.n.Resets()
}

// serve does what a device does, and sometimes begins anew.
func (x *hostile) serve() {
	if x.r.Intn(8) == 0 {
		x.p = port(x.t, x.m, x.base)
	}
	if e := x.p.Deliver(anyFrame(x.r)); e != api.OK && e != api.ErrFull && e != api.ErrForm {
		x.t.Fatalf("Deliver: %d", e)
	}
	if l := x.p.Sent(); len(l) > 8 {
		x.t.Fatalf("Sent: %d frames", len(l))
	}
}

// heal breaks both queues, so that they begin anew, and holds that all works then.
func (x *hostile) heal() {
	for _, at := range []int{x.base + comesUsed + 2, x.base + goesUsed + 2} {
		old, _ := x.m.Get(at, 2)
		put(x.t, x.m, at, 2, old+30000)
	}
	x.receive()
	x.p = port(x.t, x.m, x.base)
	frames := framesOf(8)
	wantSends(x.t, x.n, frames...)
	wantSend(x.t, x.n, api.ErrFull, frames[0])
	wantDelivers(x.t, x.p, frames...)
	wantDeliver(x.t, x.p, api.ErrFull, frames[0])
	wantSent(x.t, x.p, frames...)
	wantReceive(x.t, x.n, frames...)
	wantSends(x.t, x.n, frames...)
	wantSent(x.t, x.p, frames...)
	x.resets = x.n.Resets()
}

func TestWhateverADeviceWrites(t *testing.T) {
	resets := 0
	for seed := range int64(200) {
		m := filled(t, 12288)
		x := &hostile{t: t, r: rand.New(rand.NewSource(seed)), m: m, base: 16 * int(seed%120)}
		x.n, x.p = driver(t, m, x.base), port(t, m, x.base)
		for range 150 {
			switch x.r.Intn(8) {
			case 0:
				spoil(x.r, m, x.base)
			case 1, 2:
				x.serve()
			case 3, 4:
				x.quiet(x.receive)
			default:
				x.quiet(x.send)
			}
		}
		resets += x.n.Resets()
		x.heal()
	}
	if resets == 0 {
		t.Error("no queue was reset: the test shows one half alone")
	}
}

func TestRandomBytesFromADevice(t *testing.T) {
	r := rand.New(rand.NewSource(1))
	for range 1000 {
		m, n, p := pair(t, 0)
		x := &hostile{t: t, r: r, m: m, n: n, p: p}
		for range r.Intn(9) {
			wantSends(t, n, anyFrame(r))
		}
		s := make([]byte, r.Intn(vnet.Size))
		r.Read(s)
		writeAt(t, m, r.Intn(vnet.Size-len(s)+1), string(s))
		x.serve()
		x.quiet(x.receive)
		x.quiet(x.send)
		x.serve()
		x.heal()
	}
}

// wantAllOffered holds that all buffers for what comes are offered, when so many came back since the queue began, by what stands in memory, of which the device wrote nothing.
func wantAllOffered(t *testing.T, m *mem.Mem, base int, back uint64) {
	t.Helper()
	l := []int{}
	for i := range 8 {
		head, _ := m.Get(base+comesOffered+4+2*i, 2)
		l = append(l, int(head))
	}
	slices.Sort(l)
	offered, _ := m.Get(base+comesOffered+2, 2)
	if offered != (back+8)%65536 || !slices.Equal(l, []int{0, 1, 2, 3, 4, 5, 6, 7}) {
		t.Fatalf("behind %d that came back %d are offered, the last ones %v", back, offered, l)
	}
	if s := textAt(t, m, base, 8*16); s != waiting(base)[:8*16] {
		t.Fatalf("the descriptors are % x", s)
	}
}

func TestAllAreOfferedBehindEachReceive(t *testing.T) {
	r := rand.New(rand.NewSource(2))
	for range 2000 {
		m, n, _ := pair(t, 16)
		p := raw(t, m, 16)
		some := func() { // come back, in any state
			for range r.Intn(9) {
				if head, _, e := p.Next(); e == api.OK {
					tell(t, p, uint32(head), uint32(r.Intn(613)))
				}
			}
		}
		for range 10 {
			some()
			back, _ := m.Get(16+comesUsed+2, 2)
			n.Receive()
			wantAllOffered(t, m, 16, back)
		}
		some()
		tell(t, p, 8, 0)
		wantCounts(t, n, n.Drops(), 0)
		n.Receive()
		wantCounts(t, n, n.Drops(), 1)
		wantAllOffered(t, m, 16, 0)
	}
}

func TestSendFindsWhatHasGone(t *testing.T) {
	r := rand.New(rand.NewSource(3))
	m, n, _ := pair(t, 0)
	q := raw(t, m, goes)
	out, free := map[int]int{}, []int{0, 1, 2, 3, 4, 5, 6, 7} // buffers: those out by their heads, and the free ones
	back := []int{}
	for range 20000 {
		if r.Intn(2) == 0 { // the device is done with one of them, whichever
			heads := []int{}
			for head := range out {
				heads = append(heads, head)
			}
			slices.Sort(heads)
			if len(heads) > 0 {
				head := heads[r.Intn(len(heads))]
				tell(t, q, uint32(head), 0)
				back = append(back, out[head])
				delete(out, head)
			}
			continue
		}
		s := anyFrame(r)
		free, back = append(free, back...), nil
		if len(free) == 0 {
			wantSend(t, n, api.ErrFull, s)
			continue
		}
		wantSends(t, n, s)
		out[wantGoes(t, m, q, 0, free[0], s)] = free[0]
		free = free[1:]
	}
	wantCounts(t, n, 0, 0)
}

func TestDriversAreApart(t *testing.T) {
	m := filled(t, 32768)
	a, b := driver(t, m, 0), driver(t, m, 10304)
	c, d := port(t, m, 0), port(t, m, 10304)
	wantSends(t, a, framesOf(2)...)
	wantSent(t, d)
	wantDelivers(t, d, framesOf(3)...)
	wantReceive(t, a)
	put(t, m, comesUsed+2, 2, 60000)
	wantReceive(t, a)
	wantCounts(t, a, 1, 1)
	wantCounts(t, b, 0, 0)
	wantReceive(t, b, framesOf(3)...)
	wantSends(t, b, frameOf(14, 1))
	wantSent(t, c, framesOf(2)...)
	wantSent(t, d, frameOf(14, 1))
}
