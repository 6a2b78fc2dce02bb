package vblk_test

import (
	"math"
	"testing"

	"blockyard/api"
	"blockyard/mem"
	"blockyard/vblk"
	"blockyard/virtq"
)

// P3.5

func wantNoOpen(t *testing.T, m *mem.Mem, want api.Errno, base int) {
	t.Helper()
	if p, e := vblk.Open(m, base); p != nil || e != want {
		t.Errorf("Open(%d): %v, %d, not %d", base, p, e, want)
	}
}

func TestOpen(t *testing.T) {
	m := filled(t, 4096)
	old := all(t, m)
	for _, base := range badBases {
		wantNoOpen(t, m, api.ErrArg, base)
	}
	for _, base := range farBases {
		wantNoOpen(t, m, api.ErrRange, base)
	}
	for _, base := range []int{0, 16, 4096 - 1616} {
		port(t, m, base)
	}
	if all(t, m) != old {
		t.Error("Open changed bytes")
	}
	for _, none := range []*mem.Mem{nil, {}} {
		for _, base := range []int{0, 8, -16, 1 << 32} {
			wantNoOpen(t, none, api.ErrNil, base)
		}
	}
	for _, base := range []int{0, 16, 32} {
		port(t, filled(t, base+1616), base)
		wantNoOpen(t, filled(t, base+1615), api.ErrRange, base)
		wantNoOpen(t, filled(t, base+1616), api.ErrRange, base+16)
	}
}

func TestOpenBehindSubmit(t *testing.T) {
	m, b, _ := pair(t, 16, 8, 10)
	wantSubmit(t, b, 1, write(1, full(3)))
	p := port(t, m, 16)
	wantNext(t, p, 0, write(1, full(3)))
	wantDone(t, p, api.OK, 0, true, "")
	wantPoll(t, b, good(1))
}

// bench is a queue in which a driver offers what it likes, and a device.
type bench struct {
	t *testing.T
	m *mem.Mem
	q *virtq.Queue
	p *vblk.Port
}

func newBench(t *testing.T) *bench {
	t.Helper()
	m := filled(t, 8192)
	q, e := virtq.New(m, 64, 32)
	if e != api.OK {
		t.Fatal(e)
	}
	return &bench{t: t, m: m, q: q, p: port(t, m, 64)}
}

// piece is a buffer, and what stands in it.
type piece struct {
	text  string
	write bool
}

func out(s string) piece { return piece{text: s} }
func in(n int) piece     { return piece{text: noughts(n), write: true} }

// offer offers a chain of these pieces, which lie from at on, each with a gap ahead of it.
func (x *bench) offer(at int, l ...piece) (head int, bufs []api.Buf) {
	x.t.Helper()
	for _, y := range l {
		at += 3
		if e := x.m.Write(at, y.text); e != api.OK {
			x.t.Fatal(e)
		}
		bufs = append(bufs, api.Buf{At: at, Len: len(y.text), Write: y.write})
		at += len(y.text)
	}
	head, e := x.q.Add(bufs)
	if e != api.OK {
		x.t.Fatal(e)
	}
	return head, bufs
}

// headOf is a head's bytes.
func headOf(number, reserved, sector uint64) string {
	return mem.Little(number, 4) + mem.Little(reserved, 4) + mem.Little(sector, 8)
}

// span is the data of a discard, or a zero.
func span(sector, count, flags uint64) string {
	return mem.Little(sector, 8) + mem.Little(count, 4) + mem.Little(flags, 4)
}

func TestNextWhereverItLies(t *testing.T) {
	x := newBench(t)
	for i, sector := range []int{0, 1, 255, 256, 511, 512, 600, 1 << 31, 1 << 32, 1 << 40, math.MaxInt} {
		n := uint64(sector)
		for j, y := range []struct {
			l []piece
			o api.Order
		}{
			{[]piece{out(headOf(0, 0, n)), in(64), in(1)}, read(sector)},
			{[]piece{out(headOf(1, 0, n)), out(sectorOf(i)), in(1)}, write(sector, sectorOf(i))},
			{[]piece{out(headOf(4, 0, 0)), in(1)}, flush},
			{[]piece{out(headOf(11, 0, 0)), out(span(n, 1, 0)), in(1)}, discard(sector)},
			{[]piece{out(headOf(13, 0, 0)), out(span(n, 1, 0)), in(1)}, zero(sector)},
		} {
			head, bufs := x.offer(2000+101*i+7*j, y.l...)
			wantNext(t, x.p, head, y.o)
			wantNoNext(t, x.p, api.ErrNone)
			wantDone(t, x.p, api.OK, head, false, "")
			if s := textAt(t, x.m, bufs[len(bufs)-1].At, 1); s != "\x01" {
				t.Errorf("the status % x", s)
			}
			if h, n, e := x.q.Pop(); h != head || n != 1 || e != api.OK {
				t.Error(h, n, e)
			}
		}
	}
}

func TestNextAtTheEndsOfTheMemory(t *testing.T) {
	m := filled(t, 4096)
	q, _ := virtq.New(m, 96, 32)
	p := port(t, m, 96)
	m.Write(4080, headOf(0, 0, 5))
	l := []api.Buf{{At: 4080, Len: 16}, {At: 0, Len: 64, Write: true}, {At: 4095, Len: 1, Write: true}}
	q.Add(l)
	wantNext(t, p, 0, read(5))
	wantDone(t, p, api.OK, 0, true, sectorOf(1))
	if s := all(t, m); s[:64] != sectorOf(1) || s[4095] != 0 {
		t.Error("the data, or the status")
	}
}

// badChains are chains that a driver as it should be doesn't make.
func badChains() [][]piece {
	l := [][]piece{
		// Not these pieces.
		{out(headOf(4, 0, 0))}, {in(1)}, {in(16)}, {out(noughts(1))},
		{in(16), in(64), in(1)}, {in(16), in(1)},
		{out(headOf(0, 0, 1)), in(1)}, {out(headOf(0, 0, 1)), in(64)}, {out(headOf(0, 0, 1))},
		{out(headOf(1, 0, 1)), in(1)}, {out(headOf(1, 0, 1)), out(full(1))},
		{out(headOf(11, 0, 0)), in(1)}, {out(headOf(13, 0, 0)), in(1)}, {out(headOf(13, 0, 0)), out(span(1, 1, 0))},
		{out(headOf(0, 0, 1)), in(64), in(1), in(1)}, {out(headOf(4, 0, 0)), in(1), in(1)},
		{out(headOf(1, 0, 1)), out(full(1)), in(1), in(1)},
		{out(headOf(0, 0, 1)), in(32), in(32), in(1)}, {out(headOf(1, 0, 1)), out(full(1)[:32]), out(full(1)[32:]), in(1)},
		{out(headOf(1, 0, 1)[:8]), out(headOf(1, 0, 1)[8:]), out(full(1)), in(1)},
		{out(headOf(11, 0, 0)), out(span(1, 1, 0)), out(span(2, 1, 0)), in(1)},
		// Data that go the other way, or that a type doesn't have.
		{out(headOf(0, 0, 1)), out(full(1)), in(1)}, {out(headOf(1, 0, 1)), in(64), in(1)},
		{out(headOf(11, 0, 0)), in(16), in(1)}, {out(headOf(13, 0, 0)), in(16), in(1)},
		{out(headOf(4, 0, 0)), in(64), in(1)}, {out(headOf(4, 0, 0)), out(full(1)), in(1)}, {out(headOf(4, 0, 0)), out(span(0, 1, 0)), in(1)},
		{out(headOf(11, 0, 0)), out(full(1)), in(1)}, {out(headOf(1, 0, 1)), out(span(1, 1, 0)), in(1)},
		// A status that may not be written.
		{out(headOf(4, 0, 0)), out("\xff")}, {out(headOf(1, 0, 1)), out(full(1)), out("\xff")},
		// Sectors that heads must not tell, or that no order has.
		{out(headOf(4, 0, 1)), in(1)}, {out(headOf(4, 0, 1<<56)), in(1)},
		{out(headOf(11, 0, 1)), out(span(1, 1, 0)), in(1)}, {out(headOf(13, 0, 1)), out(span(1, 1, 0)), in(1)},
		{out(headOf(0, 0, 1<<63)), in(64), in(1)}, {out(headOf(1, 0, math.MaxUint64)), out(full(1)), in(1)},
		{out(headOf(11, 0, 0)), out(span(1<<63, 1, 0)), in(1)}, {out(headOf(13, 0, 0)), out(span(math.MaxUint64, 1, 0)), in(1)},
	}
	for _, number := range []uint64{11, 13} {
		for _, count := range []uint64{0, 2, 256, 1 << 31, 1<<24 + 1} {
			l = append(l, []piece{out(headOf(number, 0, 0)), out(span(1, count, 0)), in(1)})
		}
		for _, flags := range []uint64{1, 256, 1 << 31} {
			l = append(l, []piece{out(headOf(number, 0, 0)), out(span(1, 1, flags)), in(1)})
		}
		for _, n := range []int{8, 15, 17, 32} {
			l = append(l, []piece{out(headOf(number, 0, 0)), out((span(1, 1, 0) + noughts(16))[:n]), in(1)})
		}
	}
	return append(append(l, badHeads()...), badLengths()...)
}

// badHeads are chains of types that are none, or without 0 behind the type.
func badHeads() [][]piece {
	l := [][]piece{}
	for _, number := range []uint64{2, 3, 5, 6, 8, 10, 12, 14, 255, 256, 257, 260, 1 << 16, 1 << 24, 1<<31 + 4, math.MaxUint32} {
		l = append(l, []piece{out(headOf(number, 0, 0)), in(64), in(1)},
			[]piece{out(headOf(number, 0, 0)), out(full(1)), in(1)},
			[]piece{out(headOf(number, 0, 0)), in(1)},
			[]piece{out(headOf(number, 0, 0)), out(span(1, 1, 0)), in(1)})
	}
	for _, reserved := range []uint64{1, 255, 256, 1 << 16, 1 << 24, 1 << 31, math.MaxUint32} {
		l = append(l, []piece{out(headOf(0, reserved, 1)), in(64), in(1)},
			[]piece{out(headOf(1, reserved, 1)), out(full(1)), in(1)},
			[]piece{out(headOf(4, reserved, 0)), in(1)},
			[]piece{out(headOf(11, reserved, 0)), out(span(1, 1, 0)), in(1)},
			[]piece{out(headOf(13, reserved, 0)), out(span(1, 1, 0)), in(1)})
	}
	return l
}

// badLengths are chains whose pieces have other lengths.
func badLengths() [][]piece {
	l := [][]piece{}
	for _, n := range []int{1, 3, 4, 8, 15, 17, 32} {
		l = append(l, []piece{out((headOf(0, 0, 1) + noughts(16))[:n]), in(64), in(1)},
			[]piece{out((headOf(1, 0, 1) + noughts(16))[:n]), out(full(1)), in(1)},
			[]piece{out((headOf(4, 0, 0) + noughts(16))[:n]), in(1)})
	}
	for _, n := range []int{1, 16, 63, 65, 128} {
		l = append(l, []piece{out(headOf(0, 0, 1)), in(n), in(1)},
			[]piece{out(headOf(1, 0, 1)), out(noughts(n)), in(1)})
	}
	for _, n := range []int{2, 16, 64} {
		l = append(l, []piece{out(headOf(0, 0, 1)), in(64), in(n)},
			[]piece{out(headOf(1, 0, 1)), out(full(1)), in(n)},
			[]piece{out(headOf(4, 0, 0)), in(n)},
			[]piece{out(headOf(11, 0, 0)), out(span(1, 1, 0)), in(n)})
	}
	return l
}

func TestNextOfOtherChains(t *testing.T) {
	for _, l := range badChains() {
		x := newBench(t)
		head, _ := x.offer(2000, l...)
		good, _ := x.offer(3000, out(headOf(0, 0, 7)), in(64), in(1))
		old := all(t, x.m)
		wantNoNext(t, x.p, api.ErrForm)
		wantDone(t, x.p, api.ErrNone, head, false, "")
		if all(t, x.m) != old {
			t.Errorf("%v: an error changed bytes", l)
		}
		wantNext(t, x.p, good, read(7)) // the bad one was taken
		wantNoNext(t, x.p, api.ErrNone)
		wantDone(t, x.p, api.OK, good, true, full(1))
		wantDone(t, x.p, api.ErrNone, head, false, "")
	}
}

func TestNextOfWhatIsNoChain(t *testing.T) {
	m, b, p := pair(t, 16, 8, 10)
	wantNoNext(t, p, api.ErrNone)
	wantSubmit(t, b, 1, read(1))
	for _, x := range []struct {
		at, n int
		x     uint64
	}{
		{16 + offeredAt + 4, 2, 32}, {16 + offeredAt + 4, 2, 65535}, {16 + offeredAt + 2, 2, 34}, {16 + offeredAt + 2, 2, 65535},
		{16, 8, 1 << 40}, {16, 8, 4081}, {16 + 8, 4, 0}, {16 + 14, 2, 0}, {16 + 16 + 14, 2, 77}, {16 + 16 + 8, 4, 1 << 31},
	} {
		was, _ := m.Get(x.at, x.n)
		put(t, m, x.at, x.n, x.x)
		old := all(t, m)
		wantNoNext(t, p, api.ErrForm)
		wantNoNext(t, p, api.ErrForm)
		wantDone(t, p, api.ErrNone, 0, false, "")
		if all(t, m) != old {
			t.Error("an error changed bytes")
		}
		put(t, m, x.at, x.n, was)
	}
	wantNext(t, p, 0, read(1)) // the queue didn't take what was no chain
	wantNoNext(t, p, api.ErrNone)
}

// wantUsed holds the number i of what is used: its head and its length.
func wantUsed(t *testing.T, m *mem.Mem, base, i, head, length int) {
	t.Helper()
	want := mem.Little(uint64(head), 4) + mem.Little(uint64(length), 4)
	if s := textAt(t, m, base+usedAt+4+8*i, 8); s != want {
		t.Errorf("used %d: % x, not % x", i, s, want)
	}
	if n, _ := m.Get(base+usedAt+2, 2); n != uint64(i+1) {
		t.Errorf("the used index is %d, not %d", n, i+1)
	}
}

func TestDoneOfEachKind(t *testing.T) {
	for _, o := range []api.Order{read(3), write(3, full(5)), flush, discard(3), zero(3)} {
		for _, ok := range []bool{true, false} {
			m, b, p := pair(t, 16, 8, 10)
			wantSubmit(t, b, 1, o)
			wantNext(t, p, 0, o)
			data, status, answer := "", "\x00", good(1)
			if !ok {
				status, answer = "\x01", bad(1)
			}
			if ok && o.Kind == api.DiskRead {
				data = sectorOf(77)
				answer = good(1, data)
			}
			old := all(t, m)
			wantDone(t, p, api.OK, 0, ok, data)
			wantUsed(t, m, 16, 0, 0, len(data)+1)
			slot := 16 + slotsAt
			s := all(t, m)
			if s[slot+16:slot+16+len(data)] != data || s[slot+80:slot+81] != status {
				t.Errorf("%v, %v: the data, or the status % x", o, ok, s[slot+80])
			}
			if s[:16+usedAt] != old[:16+usedAt] || s[16+840:slot+16] != old[16+840:slot+16] || s[slot+16+len(data):slot+80] != old[slot+16+len(data):slot+80] || s[slot+81:] != old[slot+81:] {
				t.Errorf("%v, %v: other bytes are changed", o, ok)
			}
			wantPoll(t, b, answer)
		}
	}
}

func TestDoneOfHeads(t *testing.T) {
	m, b, p := pair(t, 0, 8, 10)
	for _, head := range []int{0, 1, 31, -1} {
		wantDone(t, p, api.ErrNone, head, true, "")
	}
	wantSubmit(t, b, 1, flush)
	wantSubmit(t, b, 2, flush)
	old := all(t, m)
	wantDone(t, p, api.ErrNone, 0, true, "") // offered, and not told
	wantNext(t, p, 0, flush)
	for _, head := range []int{1, 2, 3, 31, 32, -1, 1 << 16, 1 << 32, 1<<32 + 1, math.MaxInt, math.MinInt} {
		wantDone(t, p, api.ErrNone, head, true, "")
		wantDone(t, p, api.ErrNone, head, true, "a") // ahead of ErrArg
	}
	if all(t, m) != old {
		t.Error("an error changed bytes")
	}
	wantDone(t, p, api.OK, 0, true, "")
	old = all(t, m)
	wantDone(t, p, api.ErrNone, 0, true, "") // answered already
	if all(t, m) != old {
		t.Error("an error changed bytes")
	}
	wantPoll(t, b, good(1))
	wantNext(t, p, 2, flush)
	wantSubmit(t, b, 3, flush)
	wantDone(t, p, api.ErrNone, 0, true, "")
	wantNext(t, p, 0, flush) // told again, it may be answered again
	wantDone(t, p, api.OK, 0, false, "")
	wantDone(t, p, api.OK, 2, true, "")
	wantPoll(t, b, bad(3), good(2))
}

func TestDoneOfData(t *testing.T) {
	m, b, p := pair(t, 0, 8, 10)
	for i, o := range []api.Order{read(1), write(1, full(2)), flush, discard(1), zero(1)} {
		wantSubmit(t, b, i+1, o)
		head, _, _ := p.Next()
		old := all(t, m)
		for _, n := range []int{0, 1, 16, 63, 64, 65, 128, 1 << 16} {
			read := o.Kind == api.DiskRead
			if n > 0 {
				wantDone(t, p, api.ErrArg, head, false, noughts(n))
			}
			if read != (n == 64) && (read || n > 0) {
				wantDone(t, p, api.ErrArg, head, true, noughts(n))
			}
		}
		if all(t, m) != old {
			t.Error("an error changed bytes")
		}
		wantPoll(t, b)
		wantDone(t, p, api.OK, head, false, "") // it was not answered by an error
		wantPoll(t, b, bad(i+1))
	}
}

func TestDoneInAnyOrder(t *testing.T) {
	m, b, p := pair(t, 0, 8, 10)
	for i := range 8 {
		wantSubmit(t, b, i+1, read(i))
		wantNext(t, p, 3*i, read(i))
	}
	want := []api.Done{}
	for n, i := range []int{5, 0, 7, 1, 3, 6, 2, 4} {
		wantDone(t, p, api.OK, 3*i, true, sectorOf(i))
		wantUsed(t, m, 0, n, 3*i, 65)
		want = append(want, good(i+1, sectorOf(i)))
	}
	wantPoll(t, b, want...)
}

func TestDoneGoesWhereNextTold(t *testing.T) {
	m, b, p := pair(t, 0, 8, 10)
	wantSubmit(t, b, 1, read(1))
	wantNext(t, p, 0, read(1))
	m.Write(0, described(2000, 16, 1, 1)+described(2100, 64, 3, 2)+described(2200, 1, 2, 0))
	m.Write(slotsAt, "\x04"+noughts(15))
	old := all(t, m)
	wantDone(t, p, api.OK, 0, true, sectorOf(5))
	if all(t, m)[1616:] != old[1616:] {
		t.Error("bytes beside the slot are changed")
	}
	wantPoll(t, b, good(1, sectorOf(5)))
}

// Ports that Open did not make.

func TestNoPort(t *testing.T) {
	m, b, p := pair(t, 0, 8, 10)
	wantSubmit(t, b, 1, flush)
	wantSubmit(t, b, 2, flush)
	wantNext(t, p, 0, flush)
	double := *p
	old := all(t, m)
	for _, none := range []*vblk.Port{nil, {}, &double} {
		wantNoNext(t, none, api.ErrNil)
		for _, head := range []int{0, 1, -1} {
			wantDone(t, none, api.ErrNil, head, true, "")
			wantDone(t, none, api.ErrNil, head, true, "a")
		}
	}
	if all(t, m) != old {
		t.Error("bytes are changed")
	}
	wantNext(t, p, 2, flush)
	wantDone(t, p, api.OK, 0, true, "")
	wantPoll(t, b, good(1))
}
