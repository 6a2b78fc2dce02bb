package vblk_test

import (
	"math"
	"strings"
	"testing"

	"blockyard/api"
	"blockyard/mem"
	"blockyard/vblk"
)

// P3.1

func wantNoNew(t *testing.T, m *mem.Mem, want api.Errno, base, sectors, limit int) {
	t.Helper()
	if b, e := vblk.New(m, base, sectors, limit); b != nil || e != want {
		t.Errorf("New(%d, %d, %d): %v, %d, not %d", base, sectors, limit, b, e, want)
	}
}

func TestNewOfBases(t *testing.T) {
	m := filled(t, 4096)
	old := all(t, m)
	for _, base := range badBases {
		wantNoNew(t, m, api.ErrArg, base, 8, 3)
	}
	for _, base := range farBases {
		wantNoNew(t, m, api.ErrRange, base, 8, 3)
	}
	if all(t, m) != old {
		t.Error("an error changed bytes")
	}
}

func TestNewIsNoughts(t *testing.T) {
	for _, base := range []int{0, 16, 32, 4096 - 1616} {
		m := filled(t, 4096)
		old := all(t, m)
		b := driver(t, m, base, 8, 3)
		if all(t, m) != old[:base]+noughts(1616)+old[base+1616:] {
			t.Errorf("base %d: its bytes are not noughts, or others are changed", base)
		}
		wantState(t, b, false, 0)
		wantPoll(t, b)
		wantNoNext(t, port(t, m, base), api.ErrNone)
	}
}

func TestNewAtTheEnd(t *testing.T) {
	for _, base := range []int{0, 16, 4096} {
		driver(t, filled(t, base+1616), base, 8, 3)
		wantNoNew(t, filled(t, base+1615), api.ErrRange, base, 8, 3)
		m := filled(t, base+1616)
		wantNoNew(t, m, api.ErrRange, base+16, 8, 3)
		if _, e := vblk.Open(m, base); e != api.OK {
			t.Error(base, e)
		}
	}
	wantNoNew(t, filled(t, 1), api.ErrRange, 0, 8, 3)
	wantNoNew(t, filled(t, 1000), api.ErrRange, 0, 8, 3)
	driver(t, filled(t, api.MaxMem), api.MaxMem-1616, 8, 3)
}

func TestNewOfSectorsAndLimits(t *testing.T) {
	m := filled(t, 4096)
	for _, sectors := range []int{1, 2, 511, 512} {
		driver(t, m, 0, sectors, 3)
	}
	for _, limit := range []int{1, 2, 1<<20 - 1, 1 << 20} {
		driver(t, m, 0, 8, limit)
	}
	old := all(t, m)
	for _, sectors := range []int{0, -1, 513, math.MaxInt, math.MinInt} {
		wantNoNew(t, m, api.ErrArg, 0, sectors, 3)
	}
	for _, limit := range []int{0, -1, 1<<20 + 1, math.MaxInt, math.MinInt} {
		wantNoNew(t, m, api.ErrArg, 0, 8, limit)
	}
	if all(t, m) != old {
		t.Error("an error changed bytes")
	}
}

func TestNewOfSeveralErrors(t *testing.T) {
	for _, m := range []*mem.Mem{nil, {}} {
		wantNoNew(t, m, api.ErrNil, 0, 8, 3)
		wantNoNew(t, m, api.ErrNil, 8, 8, 3)
		wantNoNew(t, m, api.ErrNil, 0, 0, 0)
		wantNoNew(t, m, api.ErrNil, 1<<32, 8, 3)
	}
	m := filled(t, 4096)
	wantNoNew(t, m, api.ErrArg, 1<<32+8, 8, 3)
	wantNoNew(t, m, api.ErrArg, 1<<32, 0, 3)
	wantNoNew(t, m, api.ErrArg, 1<<32, 8, 0)
	wantNoNew(t, m, api.ErrRange, 1<<32, 8, 3)
}

// P3.2

// wantLaid holds that in the slot i stands an order of this head and these data, that is not answered.
func wantLaid(t *testing.T, m *mem.Mem, base, i int, head, data string) {
	t.Helper()
	at := base + slotsAt + slotSize*i
	if s := textAt(t, m, at, 16); s != head {
		t.Errorf("slot %d: the head % x, not % x", i, s, head)
	}
	if s := textAt(t, m, at+16, len(data)); s != data {
		t.Errorf("slot %d: the data % x, not % x", i, s, data)
	}
	if s := textAt(t, m, at+80, 1); s != "\xff" {
		t.Errorf("slot %d: the status % x", i, s)
	}
}

// described is a descriptor's bytes.
func described(at, length, flags, next int) string {
	return mem.Little(uint64(at), 8) + mem.Little(uint64(length), 4) + mem.Little(uint64(flags), 2) + mem.Little(uint64(next), 2)
}

// wantQueued holds that the queue's descriptors from 0 on are these, and that so many chains are offered, the last of them with this head.
func wantQueued(t *testing.T, m *mem.Mem, base, count, head int, descriptors ...string) {
	t.Helper()
	want := strings.Join(descriptors, "")
	if s := textAt(t, m, base, len(want)); s != want {
		t.Errorf("the descriptors are % x, not % x", s, want)
	}
	if n, _ := m.Get(base+offeredAt+2, 2); n != uint64(count) {
		t.Errorf("%d are offered, not %d", n, count)
	}
	if n, _ := m.Get(base+offeredAt+4+2*(count-1), 2); n != uint64(head) {
		t.Errorf("the head %d is offered, not %d", n, head)
	}
}

func TestSubmitOfARead(t *testing.T) {
	m, b, p := pair(t, 32, 512, 10)
	wantSubmit(t, b, 1, read(258))
	wantLaid(t, m, 32, 0, "\x00\x00\x00\x00\x00\x00\x00\x00\x02\x01\x00\x00\x00\x00\x00\x00", "")
	wantQueued(t, m, 32, 1, 0, described(880, 16, 1, 1), described(896, 64, 3, 2), described(960, 1, 2, 0))
	wantNext(t, p, 0, read(258))
}

func TestSubmitOfAWrite(t *testing.T) {
	m, b, p := pair(t, 32, 512, 10)
	wantSubmit(t, b, 1, write(511, sectorOf(3)))
	wantLaid(t, m, 32, 0, "\x01\x00\x00\x00\x00\x00\x00\x00\xff\x01\x00\x00\x00\x00\x00\x00", sectorOf(3))
	wantQueued(t, m, 32, 1, 0, described(880, 16, 1, 1), described(896, 64, 1, 2), described(960, 1, 2, 0))
	wantNext(t, p, 0, write(511, sectorOf(3)))
}

func TestSubmitOfAFlush(t *testing.T) {
	m, b, p := pair(t, 32, 512, 10)
	wantSubmit(t, b, 1, flush)
	wantLaid(t, m, 32, 0, "\x04"+noughts(15), "")
	wantQueued(t, m, 32, 1, 0, described(880, 16, 1, 1), described(960, 1, 2, 0))
	wantNext(t, p, 0, flush)
}

func TestSubmitOfADiscard(t *testing.T) {
	m, b, p := pair(t, 32, 512, 10)
	wantSubmit(t, b, 1, discard(258))
	wantLaid(t, m, 32, 0, "\x0b"+noughts(15), "\x02\x01"+noughts(6)+"\x01"+noughts(7))
	wantQueued(t, m, 32, 1, 0, described(880, 16, 1, 1), described(896, 16, 1, 2), described(960, 1, 2, 0))
	wantNext(t, p, 0, discard(258))
}

func TestSubmitOfAZero(t *testing.T) {
	m, b, p := pair(t, 32, 512, 10)
	wantSubmit(t, b, 1, zero(259))
	wantLaid(t, m, 32, 0, "\x0d"+noughts(15), "\x03\x01"+noughts(6)+"\x01"+noughts(7))
	wantQueued(t, m, 32, 1, 0, described(880, 16, 1, 1), described(896, 16, 1, 2), described(960, 1, 2, 0))
	wantNext(t, p, 0, zero(259))
}

func TestSubmitOfSectors(t *testing.T) {
	kinds := []func(int) api.Order{read, discard, zero, func(i int) api.Order { return write(i, full(1)) }}
	for _, sectors := range []int{1, 8, 511, 512} {
		_, b, p := pair(t, 0, sectors, 10)
		for _, sector := range []int{0, sectors / 2, sectors - 1} {
			for _, kind := range kinds {
				id, e := b.Submit(kind(sector))
				h, o, f := p.Next()
				if id == 0 || e != api.OK || f != api.OK || o != kind(sector) {
					t.Fatalf("%v of %d: %d, %d, %v, %d", kind(sector), sectors, id, e, o, f)
				}
				wantDone(t, p, api.OK, h, false, "")
				wantPoll(t, b, bad(id))
			}
		}
		for _, sector := range []int{sectors, sectors + 1, -1, math.MaxInt, math.MinInt} {
			for _, kind := range kinds {
				wantNoSubmit(t, b, api.ErrArg, kind(sector))
			}
		}
		for _, sector := range []int{1, -1, sectors - 1, sectors, math.MaxInt} {
			if sector != 0 {
				wantNoSubmit(t, b, api.ErrArg, api.Order{Kind: api.DiskFlush, Sector: sector})
			}
		}
	}
}

func TestSubmitOfData(t *testing.T) {
	m, b, _ := pair(t, 0, 8, 10)
	old := all(t, m)
	for _, n := range []int{0, 1, 16, 63, 65, 128, 1 << 16} {
		wantNoSubmit(t, b, api.ErrArg, write(1, strings.Repeat("a", n)))
	}
	for _, kind := range []int{api.DiskRead, api.DiskFlush, api.DiskDiscard, api.DiskZero} {
		for _, n := range []int{1, 16, 63, 64, 65} {
			wantNoSubmit(t, b, api.ErrArg, api.Order{Kind: kind, Data: strings.Repeat("a", n)})
		}
	}
	wantState(t, b, false, 0)
	if all(t, m) != old {
		t.Error("an error changed bytes")
	}
	wantSubmit(t, b, 1, flush)
}

func TestSubmitOfKinds(t *testing.T) {
	m, b, _ := pair(t, 0, 8, 10)
	old := all(t, m)
	for _, kind := range []int{0, -1, 6, 7, 11, 13, 256, 257, 1<<32 + 1, math.MaxInt, math.MinInt} {
		wantNoSubmit(t, b, api.ErrKind, api.Order{Kind: kind})
		wantNoSubmit(t, b, api.ErrKind, api.Order{Kind: kind, Sector: 8, Data: "a"})
	}
	if all(t, m) != old {
		t.Error("an error changed bytes")
	}
	wantSubmit(t, b, 1, flush)
}

func TestSubmitOfAsManyAsMayBe(t *testing.T) {
	m, b, p := pair(t, 0, 8, 10)
	for i := range 8 {
		wantSubmit(t, b, i+1, write(i, full(byte(i))))
		wantState(t, b, false, i+1)
	}
	old := all(t, m)
	for _, o := range []api.Order{read(0), flush, write(0, full(0)), discard(0), zero(0)} {
		wantNoSubmit(t, b, api.ErrFull, o)
	}
	wantNoSubmit(t, b, api.ErrArg, read(8))
	wantNoSubmit(t, b, api.ErrKind, api.Order{})
	if all(t, m) != old {
		t.Error("an error changed bytes")
	}
	for i := range 8 {
		wantNext(t, p, 3*i, write(i, full(byte(i))))
	}
	wantNoNext(t, p, api.ErrNone)
	wantDone(t, p, api.OK, 15, true, "")
	wantNoSubmit(t, b, api.ErrFull, read(0)) // what has come back is out till it is polled
	wantPoll(t, b, good(6))
	wantSubmit(t, b, 9, read(0))
	wantNoSubmit(t, b, api.ErrFull, read(0))
}

func TestSubmitTakesTheFirstFreeSlot(t *testing.T) {
	m, b, p := pair(t, 16, 16, 10)
	for i := range 8 {
		wantSubmit(t, b, i+1, write(i, full(byte(i+1))))
		wantNext(t, p, 3*i, write(i, full(byte(i+1))))
		wantLaid(t, m, 16, i, "\x01"+noughts(7)+string([]byte{byte(i)})+noughts(7), full(byte(i+1)))
	}
	for _, i := range []int{6, 2, 5} {
		wantDone(t, p, api.OK, 3*i, true, "")
	}
	wantPoll(t, b, good(7), good(3), good(6))
	for n, i := range []int{2, 5, 6} {
		wantSubmit(t, b, 9+n, write(9+n, full(byte(20+n))))
		wantLaid(t, m, 16, i, "\x01"+noughts(7)+string([]byte{byte(9 + n)})+noughts(7), full(byte(20+n)))
		wantNext(t, p, 3*i, write(9+n, full(byte(20+n))))
	}
	for _, i := range []int{0, 1, 3, 4, 7} {
		wantLaid(t, m, 16, i, "\x01"+noughts(7)+string([]byte{byte(i)})+noughts(7), full(byte(i+1)))
	}
	wantDone(t, p, api.OK, 0, true, "")
	wantPoll(t, b, good(1))
	wantSubmit(t, b, 12, flush)
	wantLaid(t, m, 16, 0, "\x04"+noughts(15), "")
}

func TestSubmitChangesItsSlotAlone(t *testing.T) {
	for _, o := range []api.Order{read(3), write(3, full(9)), flush, discard(3), zero(3)} {
		m, b, _ := pair(t, 16, 8, 10)
		wantSubmit(t, b, 1, read(1))
		old := all(t, m)
		wantSubmit(t, b, 2, o)
		from := 16 + slotsAt + slotSize
		s := all(t, m)
		if s[:16] != old[:16] || s[16+840:from] != old[16+840:from] || s[from+81:] != old[from+81:] {
			t.Errorf("%v: bytes beside its slot are changed", o)
		}
	}
}

func TestSubmitOfTheDead(t *testing.T) {
	m, b, _ := pair(t, 0, 8, 1)
	wantSubmit(t, b, 1, read(0))
	b.Tick()
	old := all(t, m)
	for range 2 {
		for _, o := range []api.Order{read(0), read(8), {Kind: 6}, write(0, "a"), flush} {
			wantNoSubmit(t, b, api.ErrDead, o)
		}
		b.Poll()
	}
	wantState(t, b, true, 0)
	if all(t, m) != old {
		t.Error("an error changed bytes")
	}
}

func TestNumbersGoOn(t *testing.T) {
	_, b, p := pair(t, 0, 8, 10)
	for i := range 70000 {
		wantSubmit(t, b, i+1, flush)
		wantNoSubmit(t, b, api.ErrArg, read(8))
		wantNext(t, p, 0, flush)
		wantDone(t, p, api.OK, 0, i%2 == 0, "")
		if l := b.Poll(); len(l) != 1 || l[0].Id != i+1 || l[0].OK != (i%2 == 0) {
			t.Fatalf("%d: %v", i+1, l)
		}
	}
}

// P3.3

func TestPollInTheOrderOfTheDevice(t *testing.T) {
	_, b, p := pair(t, 0, 8, 10)
	l := []api.Order{write(1, full(1)), read(2), flush, discard(3), zero(4), read(5)}
	heads := []int{}
	for i, o := range l {
		wantSubmit(t, b, i+1, o)
		h, _, _ := p.Next()
		heads = append(heads, h)
	}
	wantPoll(t, b)
	wantDone(t, p, api.OK, heads[5], true, sectorOf(7))
	wantDone(t, p, api.OK, heads[3], true, "")
	wantDone(t, p, api.OK, heads[1], false, "")
	wantState(t, b, false, 6)
	wantPoll(t, b, good(6, sectorOf(7)), good(4), bad(2))
	wantState(t, b, false, 3)
	wantPoll(t, b)
	wantDone(t, p, api.OK, heads[2], true, "")
	wantDone(t, p, api.OK, heads[4], false, "")
	wantDone(t, p, api.OK, heads[0], true, "")
	wantPoll(t, b, good(3), bad(5), good(1))
	wantPoll(t, b)
	wantState(t, b, false, 0)
}

func TestPollOfStatuses(t *testing.T) {
	for status := range 256 {
		for _, o := range []api.Order{read(1), write(1, full(2)), flush, discard(1), zero(1)} {
			m, b, _ := pair(t, 16, 8, 10)
			d := raw(t, m, 16)
			wantSubmit(t, b, 1, o)
			m.Write(16+slotsAt+16, sectorOf(9))
			put(t, m, 16+slotsAt+80, 1, uint64(status))
			length, data := uint32(1), ""
			if o.Kind == api.DiskRead {
				length, data = 65, sectorOf(9)
			}
			tell(t, d, 0, length)
			if status == 0 {
				wantPoll(t, b, good(1, data))
			} else {
				wantPoll(t, b, bad(1))
			}
			wantState(t, b, false, 0)
		}
	}
}

func TestPollOfAStatusThatIsNotWritten(t *testing.T) {
	m, b, _ := pair(t, 0, 8, 10)
	d := raw(t, m, 0)
	wantSubmit(t, b, 1, read(1))
	m.Write(slotsAt+16, full(1))
	put(t, m, slotsAt+80, 1, 0)
	tell(t, d, 0, 65)
	wantPoll(t, b, good(1, full(1)))
	wantSubmit(t, b, 2, read(1)) // its status is 255 again, not the last one's 0
	tell(t, d, 0, 65)
	wantPoll(t, b, bad(2))
	wantState(t, b, false, 0)
}

func TestPollOfLengths(t *testing.T) {
	for length := range uint32(65) {
		m, b, _ := pair(t, 0, 8, 10)
		wantSubmit(t, b, 1, read(1))
		put(t, m, slotsAt+80, 1, 0)
		tell(t, raw(t, m, 0), 0, length)
		wantPoll(t, b, bad(1))
		wantState(t, b, false, 0)
	}
	for _, o := range []api.Order{write(1, full(2)), flush, discard(1), zero(1)} {
		for length := range uint32(2) {
			m, b, _ := pair(t, 0, 8, 10)
			wantSubmit(t, b, 1, o)
			put(t, m, slotsAt+80, 1, 0)
			tell(t, raw(t, m, 0), 0, length)
			wantPoll(t, b, good(1))
			wantState(t, b, false, 0)
		}
	}
}

func TestPollOfLengthsThatCannotBe(t *testing.T) {
	for _, x := range []struct {
		o      api.Order
		length uint32
	}{{read(1), 66}, {read(1), math.MaxUint32}, {write(1, full(2)), 2}, {write(1, full(2)), 65}, {flush, 2}, {discard(1), 17}, {zero(1), 2}} {
		m, b, _ := pair(t, 0, 8, 10)
		wantSubmit(t, b, 1, x.o)
		put(t, m, slotsAt+80, 1, 0)
		tell(t, raw(t, m, 0), 0, x.length)
		wantState(t, b, false, 1)
		wantPoll(t, b, bad(1))
		wantState(t, b, true, 0)
		wantNoSubmit(t, b, api.ErrDead, flush)
	}
}

func TestPollOfWhatCannotComeBack(t *testing.T) {
	for _, head := range []uint32{1, 2, 5, 24, 31, 32, 99, 1 << 16, 1 << 31, math.MaxUint32} {
		m, b, _ := pair(t, 0, 8, 10)
		wantSubmit(t, b, 1, read(1))
		wantSubmit(t, b, 2, read(2))
		put(t, m, slotsAt+80, 1, 0)
		tell(t, raw(t, m, 0), head, 0)
		wantPoll(t, b, bads(1, 2)...)
		wantState(t, b, true, 0)
		wantPoll(t, b)
	}
	m, b, _ := pair(t, 0, 8, 10)
	wantSubmit(t, b, 1, read(1))
	put(t, m, usedAt+2, 2, 2)
	wantPoll(t, b, bad(1))
	wantState(t, b, true, 0)
}

func TestPollThatBreaksOnTheWay(t *testing.T) {
	m, b, p := pair(t, 0, 8, 10)
	for i := range 6 {
		wantSubmit(t, b, i+1, read(i))
		wantNext(t, p, 3*i, read(i))
	}
	wantDone(t, p, api.OK, 12, true, full(4))
	wantDone(t, p, api.OK, 3, true, full(1))
	wantDone(t, p, api.OK, 6, true, full(2))
	wantDone(t, p, api.OK, 15, true, full(5))
	put(t, m, usedAt+4+8*2, 4, 12) // the third one comes back as the first one, once more
	wantPoll(t, b, good(5, full(4)), good(2, full(1)), bad(1), bad(3), bad(4), bad(6))
	wantState(t, b, true, 0)
	put(t, m, usedAt+4+8*2, 4, 6)
	wantPoll(t, b)
	wantNoSubmit(t, b, api.ErrDead, flush)
	wantState(t, b, true, 0)
}

func TestPollOfTheDeadIsByNumbers(t *testing.T) {
	_, b, p := pair(t, 0, 8, 3)
	for i := range 8 {
		wantSubmit(t, b, i+1, read(i))
		wantNext(t, p, 3*i, read(i))
	}
	wantDone(t, p, api.OK, 0, true, full(0))
	wantDone(t, p, api.OK, 9, true, full(3))
	wantPoll(t, b, good(1, full(0)), good(4, full(3)))
	wantSubmit(t, b, 9, flush) // it takes the first slot, and the first descriptors
	ticks(b, 3)
	wantState(t, b, true, 7)
	wantPoll(t, b, bads(2, 3, 5, 6, 7, 8, 9)...)
	wantState(t, b, true, 0)
	wantPoll(t, b)
	wantPoll(t, b)
}

func TestPollOfTheDeadTellsNoLateAnswer(t *testing.T) {
	_, b, p := pair(t, 0, 8, 2)
	wantSubmit(t, b, 1, read(1))
	wantSubmit(t, b, 2, flush)
	wantNext(t, p, 0, read(1))
	wantNext(t, p, 3, flush)
	wantDone(t, p, api.OK, 3, true, "")
	ticks(b, 2)
	wantDone(t, p, api.OK, 0, true, full(1))
	wantState(t, b, true, 2)
	wantPoll(t, b, bads(1, 2)...)
	wantPoll(t, b)
}

func TestPollChangesNoByte(t *testing.T) {
	m, b, p := pair(t, 0, 8, 2)
	wantSubmit(t, b, 1, read(1))
	wantSubmit(t, b, 2, read(2))
	wantNext(t, p, 0, read(1))
	wantDone(t, p, api.OK, 0, true, full(1))
	old := all(t, m)
	wantPoll(t, b, good(1, full(1)))
	ticks(b, 2)
	wantPoll(t, b, bad(2))
	if all(t, m) != old {
		t.Error("Poll or Tick changed bytes")
	}
}

func TestAnswersAreNew(t *testing.T) {
	_, b, p := pair(t, 0, 8, 2)
	wantSubmit(t, b, 1, flush)
	wantSubmit(t, b, 2, flush)
	wantNext(t, p, 0, flush)
	wantDone(t, p, api.OK, 0, true, "")
	l := b.Poll()
	l[0].Id = 99
	_ = append(l, bad(98))
	wantPoll(t, b)
	ticks(b, 2)
	wantPoll(t, b, bad(2))
}

// P3.4

func TestLimits(t *testing.T) {
	for _, limit := range []int{1, 2, 3, 50, 1<<20 - 1, 1 << 20} {
		_, b, _ := pair(t, 0, 8, limit)
		ticks(b, min(2*limit, 200)) // nothing is out that could grow old
		wantState(t, b, false, 0)
		wantSubmit(t, b, 1, read(1))
		wantState(t, b, false, 1)
		ticks(b, limit-1)
		wantState(t, b, false, 1)
		wantPoll(t, b)
		b.Tick()
		wantState(t, b, true, 1)
		b.Tick()
		wantState(t, b, true, 1)
		wantPoll(t, b, bad(1))
		wantState(t, b, true, 0)
		ticks(b, 3)
		wantState(t, b, true, 0)
	}
}

func TestEachOrderHasItsAge(t *testing.T) {
	_, b, p := pair(t, 0, 8, 3)
	for i := range 20 { // one is always out, none longer than two ticks
		wantSubmit(t, b, i+1, flush)
		if i > 0 {
			h, _, e := p.Next()
			if e != api.OK {
				t.Fatal(e)
			}
			wantDone(t, p, api.OK, h, true, "")
			wantPoll(t, b, good(i))
		}
		b.Tick()
		b.Tick()
		wantState(t, b, false, 1)
	}
	b.Tick()
	wantState(t, b, true, 1)
	wantPoll(t, b, bad(20))
}

func TestTheOldestCounts(t *testing.T) {
	_, b, p := pair(t, 0, 8, 4)
	wantSubmit(t, b, 1, read(1))
	b.Tick()
	wantSubmit(t, b, 2, read(2))
	b.Tick()
	wantSubmit(t, b, 3, read(3))
	wantNext(t, p, 0, read(1))
	wantDone(t, p, api.OK, 0, true, full(1))
	wantPoll(t, b, good(1, full(1)))
	ticks(b, 2)
	wantState(t, b, false, 2)
	b.Tick()
	wantState(t, b, true, 2)
	wantPoll(t, b, bads(2, 3)...)
}

func TestWhatHasComeBackIsOutTillItIsPolled(t *testing.T) {
	_, b, p := pair(t, 0, 8, 2)
	wantSubmit(t, b, 1, flush)
	wantNext(t, p, 0, flush)
	wantDone(t, p, api.OK, 0, true, "")
	wantState(t, b, false, 1)
	b.Tick()
	wantState(t, b, false, 1)
	wantPoll(t, b, good(1))
	wantState(t, b, false, 0)
	b.Tick()
	wantState(t, b, false, 0)
	wantSubmit(t, b, 2, flush)
}

// Drivers that New did not make.

func TestNoDriver(t *testing.T) {
	m, b, p := pair(t, 0, 8, 2)
	wantSubmit(t, b, 1, flush)
	wantNext(t, p, 0, flush)
	wantDone(t, p, api.OK, 0, true, "")
	double := *b
	old := all(t, m)
	for _, none := range []*vblk.Blk{nil, {}, &double} {
		for _, o := range []api.Order{flush, read(9), {Kind: 6}, {}} {
			wantNoSubmit(t, none, api.ErrNil, o)
		}
		ticks(none, 5)
		wantState(t, none, false, 0)
		wantPoll(t, none)
	}
	if all(t, m) != old {
		t.Error("bytes are changed")
	}
	b.Tick()
	wantPoll(t, b, good(1))
}
