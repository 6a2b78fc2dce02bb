package vnet_test

import (
	"strings"
	"testing"

	"blockyard/api"
	"blockyard/mem"
	"blockyard/virtq"
	"blockyard/vnet"
)

// P4.5

func wantNoOpen(t *testing.T, m *mem.Mem, want api.Errno, base int) {
	t.Helper()
	if p, e := vnet.Open(m, base); p != nil || e != want {
		t.Errorf("Open(%d): %v, %d, not %d", base, p, e, want)
	}
}

func TestOpen(t *testing.T) {
	m := filled(t, 16384)
	old := all(t, m)
	for _, base := range badBases {
		wantNoOpen(t, m, api.ErrArg, base)
	}
	for _, base := range farBases {
		wantNoOpen(t, m, api.ErrRange, base)
	}
	for _, base := range []int{0, 16, 16384 - 10304} {
		port(t, m, base)
	}
	if all(t, m) != old {
		t.Error("Open changed bytes")
	}
	for _, none := range []*mem.Mem{nil, {}} {
		for _, base := range []int{0, 8, -16, 1 << 32} {
			wantNoOpen(t, none, api.ErrNil, base)
		}
	}
	for _, base := range []int{0, 16, 32} {
		port(t, filled(t, base+10304), base)
		wantNoOpen(t, filled(t, base+10303), api.ErrRange, base)
		wantNoOpen(t, filled(t, base+448), api.ErrRange, base)
		wantNoOpen(t, filled(t, base+1), api.ErrRange, base)
		wantNoOpen(t, filled(t, base+10304), api.ErrRange, base+16)
	}
}

func TestOpenBehindSend(t *testing.T) {
	m := filled(t, 16384)
	n := driver(t, m, 16)
	wantSends(t, n, framesOf(5)...)
	p := port(t, m, 16)
	wantSent(t, p, framesOf(5)...)
	wantDelivers(t, p, framesOf(4)...)
	wantReceive(t, n, framesOf(4)...)
}

func TestDeliverOfLengths(t *testing.T) {
	m, n, p := pair(t, 32)
	drops := 0
	for k := range 601 {
		i := k % 8
		old := all(t, m)
		wantDeliver(t, p, api.OK, frameOf(k, k))
		want := []byte(old)
		copy(want[comesAt(32, i):], noughts(12)+frameOf(k, k))
		copy(want[32+comesUsed+2:], mem.Little(uint64(k+1), 2))
		copy(want[32+comesUsed+4+8*i:], mem.Little(uint64(i), 4)+mem.Little(uint64(12+k), 4))
		if all(t, m) != string(want) {
			t.Fatalf("%d bytes: they are not as they must be, or others are changed", k)
		}
		if k < 14 {
			drops++
			wantReceive(t, n)
		} else {
			wantReceive(t, n, frameOf(k, k))
		}
		wantCounts(t, n, drops, 0)
	}
}

func TestDeliverOfTooLong(t *testing.T) {
	m, n, p := pair(t, 0)
	old := all(t, m)
	for _, k := range []int{601, 602, 612, 616, 1000, 1 << 20} {
		wantDeliver(t, p, api.ErrLong, strings.Repeat("a", k))
	}
	if all(t, m) != old {
		t.Error("an error changed bytes")
	}
	wantDelivers(t, p, framesOf(8)...)
	// ErrLong is ahead of what virtq tells.
	wantDeliver(t, p, api.ErrLong, frameOf(601, 1))
	wantDeliver(t, p, api.ErrFull, frameOf(600, 1))
	put(t, m, comesOffered+2, 2, 60000)
	wantDeliver(t, p, api.ErrLong, frameOf(601, 1))
	wantDeliver(t, p, api.ErrForm, frameOf(600, 1))
	wantReceive(t, n, framesOf(8)...)
}

func TestDeliverOfEightAndOneMore(t *testing.T) {
	m, n, p := pair(t, 0)
	for range 20 {
		wantDelivers(t, p, framesOf(8)...)
		old := all(t, m)
		for range 3 {
			wantDeliver(t, p, api.ErrFull, frameOf(14, 1))
		}
		if all(t, m) != old {
			t.Fatal("an error changed bytes")
		}
		wantReceive(t, n, framesOf(8)...)
	}
	wantCounts(t, n, 0, 0)
}

// bench is a queue at at in which a driver offers what it likes, and a device at 64.
type bench struct {
	t *testing.T
	m *mem.Mem
	q *virtq.Queue
	p *vnet.Port
}

func newBench(t *testing.T, at int) *bench {
	t.Helper()
	m := filled(t, 16384)
	driver(t, m, 64)
	q, e := virtq.New(m, at, 8)
	if e != api.OK {
		t.Fatal(e)
	}
	return &bench{t: t, m: m, q: q, p: port(t, m, 64)}
}

func comesBench(t *testing.T) *bench { return newBench(t, 64) }
func goesBench(t *testing.T) *bench  { return newBench(t, 64+goes) }

// read and write are buffers.
func read(at, n int) api.Buf  { return api.Buf{At: at, Len: n} }
func write(at, n int) api.Buf { return api.Buf{At: at, Len: n, Write: true} }

func (x *bench) offer(l ...api.Buf) int {
	x.t.Helper()
	head, e := x.q.Add(l)
	if e != api.OK {
		x.t.Fatalf("Add of %v: %d", l, e)
	}
	return head
}

func (x *bench) wantPop(head, length int) {
	x.t.Helper()
	if h, n, e := x.q.Pop(); h != head || n != length || e != api.OK {
		x.t.Fatalf("Pop: %d, %d, %d, not %d, %d", h, n, e, head, length)
	}
}

func (x *bench) wantNoPop() {
	x.t.Helper()
	if h, n, e := x.q.Pop(); e != api.ErrNone {
		x.t.Fatalf("Pop: %d, %d, %d", h, n, e)
	}
}

func TestDeliverWhereverTheBufferLies(t *testing.T) {
	x := comesBench(t)
	for _, at := range []int{512, 513, 11111, 16384 - 612} {
		head := x.offer(write(at, 612))
		old := all(t, x.m)
		wantDeliver(t, x.p, api.OK, frameOf(100, 3))
		if s := textAt(t, x.m, at, 112); s != noughts(12)+frameOf(100, 3) {
			t.Errorf("at %d: % x", at, s)
		}
		if s := textAt(t, x.m, at+112, 500); s != old[at+112:at+612] {
			t.Errorf("at %d: bytes behind the frame are changed", at)
		}
		x.wantPop(head, 112)
		x.wantNoPop()
	}
}

func TestDeliverIntoOtherChains(t *testing.T) {
	for name, l := range map[string][]api.Buf{
		"one byte less":   {write(12000, 611)},
		"one byte more":   {write(12000, 613)},
		"one byte":        {write(12000, 1)},
		"many bytes":      {write(0, 16384)},
		"to be read":      {read(12000, 612)},
		"two":             {write(12000, 12), write(13000, 600)},
		"two that fit":    {write(12000, 612), write(13000, 612)},
		"one to be read":  {read(12000, 612), write(13000, 612)},
		"all descriptors": {write(12000, 612), write(12000, 1), write(12000, 1), write(12000, 1), write(12000, 1), write(12000, 1), write(12000, 1), write(12000, 1)},
	} {
		x := comesBench(t)
		x.offer(l...)
		old := all(t, x.m)
		wantDeliver(t, x.p, api.ErrForm, frameOf(100, 3))
		if all(t, x.m) != old {
			t.Errorf("%s: an error changed bytes", name)
		}
		x.wantNoPop()
		// It is taken all the same.
		wantDeliver(t, x.p, api.ErrFull, frameOf(100, 3))
		if x.q.Free() > 0 {
			head := x.offer(write(14000, 612))
			wantDeliver(t, x.p, api.OK, frameOf(100, 3))
			x.wantPop(head, 112)
		}
	}
}

func TestDeliverIntoWhatIsNoChain(t *testing.T) {
	x := comesBench(t)
	x.offer(write(12000, 612))
	x.offer(write(13000, 612))
	for _, spoil := range [][3]int{
		{64 + comesOffered + 2, 2, 9},     // more are offered than there are entries
		{64 + comesOffered + 2, 2, 60000}, // many more
		{64 + comesOffered + 4, 2, 8},     // a number that is none
		{64 + 8, 4, 0},                    // without bytes
		{64, 8, 16384 - 611},              // beyond the end
		{64, 8, -1},                       // far beyond
		{64 + 12, 2, 3},                   // one that leads into itself
	} {
		good, _ := x.m.Get(spoil[0], spoil[1])
		put(t, x.m, spoil[0], spoil[1], uint64(spoil[2]))
		for range 3 {
			wantDeliver(t, x.p, api.ErrForm, frameOf(100, 3))
			x.wantNoPop()
		}
		put(t, x.m, spoil[0], spoil[1], good)
	}
	// virtq takes no such chain: when it is made whole, it is the next.
	wantDeliver(t, x.p, api.OK, frameOf(100, 3))
	x.wantPop(0, 112)
}

// A driver that is not as it should be may offer bytes of the queues themselves.
func TestBuffersUponTheQueues(t *testing.T) {
	for at := range 512 {
		x := comesBench(t)
		x.offer(write(at, 612))
		wantDeliver(t, x.p, api.OK, frameOf(600, at))
		for range 20 {
			if e := x.p.Deliver(frameOf(600, at)); e != api.OK && e != api.ErrFull && e != api.ErrForm {
				t.Fatalf("at %d: Deliver: %d", at, e)
			}
		}
		x = goesBench(t)
		x.offer(read(at, 612))
		want := textAt(t, x.m, at+12, 600)
		wantSent(t, x.p, want)
		wantSent(t, x.p)
	}
}

func TestSentWhereverTheBufferLies(t *testing.T) {
	x := goesBench(t)
	want, heads := []string{}, []int{}
	for i, k := range []int{12, 13, 25, 26, 612, 613, 616, 4000} {
		at := 12000 + 7*i
		heads = append(heads, x.offer(read(at, k)))
		want = append(want, textAt(t, x.m, at+12, k-12))
	}
	wantSent(t, x.p, want...)
	for _, head := range heads {
		x.wantPop(head, 0)
	}
	x.wantNoPop()
	wantSent(t, x.p)
}

func TestSentOfTheMemorysEnds(t *testing.T) {
	x := goesBench(t)
	x.offer(read(0, 20))
	x.offer(read(16384-20, 20))
	x.offer(read(16384-12, 12))
	wantSent(t, x.p, textAt(t, x.m, 12, 8), textAt(t, x.m, 16384-8, 8), "")
}

func TestSentOfOtherChains(t *testing.T) {
	for name, l := range map[string][]api.Buf{
		"a byte too few":   {read(12000, 11)},
		"one byte":         {read(12000, 1)},
		"to be written":    {write(12000, 100)},
		"two":              {read(12000, 12), read(13000, 100)},
		"one more to read": {read(12000, 100), read(13000, 1)},
		"one to write":     {read(12000, 100), write(13000, 1)},
		"six descriptors":  {read(12000, 50), read(12000, 50), read(12000, 50), write(12000, 50), write(12000, 50), write(12000, 50)},
	} {
		x := goesBench(t)
		a := x.offer(read(14000, 30))
		b := x.offer(l...)
		c := x.offer(read(14100, 40))
		wantSent(t, x.p, textAt(t, x.m, 14012, 18), textAt(t, x.m, 14112, 28))
		for _, head := range []int{a, b, c} {
			x.wantPop(head, 0)
		}
		x.wantNoPop()
		wantSent(t, x.p)
		if t.Failed() {
			t.Fatal(name)
		}
	}
}

func TestSentUpToAnError(t *testing.T) {
	x := goesBench(t)
	a := x.offer(read(12000, 20))
	b := x.offer(read(12100, 30))
	c := x.offer(read(12200, 40))
	put(t, x.m, 64+goes+16*b+8, 4, 0)
	wantSent(t, x.p, textAt(t, x.m, 12012, 8))
	x.wantPop(a, 0)
	x.wantNoPop()
	wantSent(t, x.p)
	put(t, x.m, 64+goes+16*b+8, 4, 30)
	wantSent(t, x.p, textAt(t, x.m, 12112, 18), textAt(t, x.m, 12212, 28))
	x.wantPop(b, 0)
	x.wantPop(c, 0)
}

func TestSentOfAnIndexTooFar(t *testing.T) {
	m, n, p := pair(t, 0)
	wantSends(t, n, framesOf(4)...)
	for _, index := range []uint64{9, 10, 60000, 65535} {
		put(t, m, goes+comesOffered+2, 2, index)
		old := all(t, m)
		wantSent(t, p)
		if all(t, m) != old {
			t.Error("an error changed bytes")
		}
	}
	put(t, m, goes+comesOffered+2, 2, 4)
	wantSent(t, p, framesOf(4)...)
}

func TestSentChangesNothingElse(t *testing.T) {
	m, n, p := pair(t, 32)
	wantSends(t, n, framesOf(3)...)
	want := []byte(all(t, m))
	copy(want[32+goesUsed:], noughts(2)+"\x03\x00")
	for i := range 3 {
		copy(want[32+goesUsed+4+8*i:], mem.Little(uint64(i), 4)+noughts(4))
	}
	wantSent(t, p, framesOf(3)...)
	if all(t, m) != string(want) {
		t.Error("the bytes are not as they must be")
	}
}

func TestPortThatOpenDidNotMake(t *testing.T) {
	m, n, made := pair(t, 0)
	wantSends(t, n, framesOf(2)...)
	copied := *made
	old := all(t, m)
	for name, p := range map[string]*vnet.Port{"nil": nil, "zero": {}, "copied": &copied} {
		for _, k := range []int{0, 14, 600, 601} {
			if e := p.Deliver(frameOf(k, 1)); e != api.ErrNil {
				t.Errorf("%s: Deliver of %d bytes: %d", name, k, e)
			}
		}
		if l := p.Sent(); len(l) != 0 {
			t.Errorf("%s: Sent: %q", name, l)
		}
	}
	if all(t, m) != old {
		t.Error("one that Open did not make changed bytes")
	}
	wantSent(t, made, framesOf(2)...)
}
