package virtq_test

import (
	"math"
	"slices"
	"testing"

	"blockyard/api"
	"blockyard/mem"
	"blockyard/virtq"
)

// P2.2

func TestNewMakesNoughts(t *testing.T) {
	for n, bytes := range sizes {
		for _, base := range []int{0, 16, 64, 65536 - bytes - bytes%16} {
			base -= base % 16
			m := filled(t, 65536)
			old := all(t, m)
			q := queue(t, m, base, n)
			if all(t, m) != old[:base]+noughts(bytes)+old[base+bytes:] {
				t.Errorf("New(%d, %d): other bytes than its own are noughts", base, n)
			}
			wantState(t, q, n, 0, false)
			wantNoPop(t, q, api.ErrNone)
			wantNoNext(t, port(t, m, base, n), api.ErrNone)
		}
	}
}

// opens asks New and Open for a queue, and holds that both answer want, and that an error changes nothing.
func opens(t *testing.T, m *mem.Mem, base, n int, want api.Errno) {
	t.Helper()
	old, _ := m.Text(0, m.Size())
	p, e := virtq.Open(m, base, n)
	if e != want || (p != nil) != (want == api.OK) {
		t.Errorf("Open(%d bytes, %d, %d): %v, %d, not %d", m.Size(), base, n, p, e, want)
	}
	if s, _ := m.Text(0, m.Size()); s != old {
		t.Errorf("Open(%d bytes, %d, %d) changed bytes", m.Size(), base, n)
	}
	q, e := virtq.New(m, base, n)
	if e != want || (q != nil) != (want == api.OK) {
		t.Errorf("New(%d bytes, %d, %d): %v, %d, not %d", m.Size(), base, n, q, e, want)
	}
	if s, _ := m.Text(0, m.Size()); want != api.OK && s != old {
		t.Errorf("New(%d bytes, %d, %d) changed bytes", m.Size(), base, n)
	}
}

func TestQueuesOfNoMemory(t *testing.T) {
	copied := *filled(t, 4096)
	for _, m := range []*mem.Mem{nil, {}, &copied} {
		// ErrNil is ahead of the other errors, too.
		for _, base := range []int{0, 16, 8, -16, 1 << 62} {
			for _, n := range []int{1, 64, 0, 3, 128} {
				opens(t, m, base, n, api.ErrNil)
			}
		}
	}
}

func TestQueuesThatAreNone(t *testing.T) {
	m := filled(t, 65536)
	for _, n := range []int{0, 3, 5, 6, 7, 63, 65, 96, 128, 1 << 62, -1, -4, math.MaxInt, math.MinInt} {
		// ErrArg is ahead of ErrRange.
		for _, base := range []int{0, 16, 65536, 1 << 62} {
			opens(t, m, base, n, api.ErrArg)
		}
	}
	for _, base := range []int{-16, -1, 1, 8, 15, 17, 24, 65535, 65537, 1<<62 + 8, math.MaxInt, math.MinInt, math.MinInt + 16, -1 << 62} {
		for _, n := range []int{1, 2, 4, 64} {
			opens(t, m, base, n, api.ErrArg)
		}
	}
}

func TestQueuesBeyondTheEnd(t *testing.T) {
	for n, bytes := range sizes {
		for _, base := range []int{0, 16, 4096} {
			opens(t, filled(t, base+bytes), base, n, api.OK)
			opens(t, filled(t, base+bytes-1), base, n, api.ErrRange)
			opens(t, filled(t, base+bytes), base+16, n, api.ErrRange)
		}
		// All of these are multiples of 16; the last with a queue's bytes are more than an int holds.
		for _, base := range []int{65536, 1 << 20, 1 << 62, math.MaxInt - 15 - 16*bytes, math.MaxInt - 15} {
			opens(t, filled(t, 65536), base, n, api.ErrRange)
		}
	}
	opens(t, filled(t, 1), 0, 1, api.ErrRange)
}

// noQueues are all the kinds of queues that New did not make.
func noQueues(t *testing.T) []*virtq.Queue {
	_, q, d := pair(t, 0, 4)
	wantAdd(t, q, 0, write(512, 64))
	wantDone(t, d, 0, 64)
	copied := *q
	return []*virtq.Queue{nil, {}, &copied}
}

func TestNoQueue(t *testing.T) {
	for _, q := range noQueues(t) {
		// ErrNil is ahead of the other errors, too.
		for _, l := range [][]api.Buf{nil, {read(512, 4)}, {read(512, 0)}, {read(1<<62, 4)}, reads(65), {write(512, 4), read(512, 4)}} {
			wantNoAdd(t, q, api.ErrNil, l...)
		}
		wantNoPop(t, q, api.ErrNil)
		q.Reset()
		wantNoPop(t, q, api.ErrNil)
		wantState(t, q, 0, 0, false)
	}
}

func TestNoQueueOfABrokenOne(t *testing.T) {
	_, q, d := pair(t, 0, 4)
	wantDone(t, d, 0, 0)
	wantNoPop(t, q, api.ErrForm)
	copied := *q
	wantNoPop(t, &copied, api.ErrNil)
	wantNoAdd(t, &copied, api.ErrNil, read(512, 4))
	wantState(t, &copied, 0, 0, false)
}

func TestACopyLeavesTheQueue(t *testing.T) {
	m, q, d := pair(t, 0, 4)
	wantAdd(t, q, 0, write(512, 64))
	wantDone(t, d, 0, 64)
	old := all(t, m)
	c := *q
	c.Add(reads(1))
	c.Pop()
	c.Reset()
	if all(t, m) != old {
		t.Error("a copy changed bytes")
	}
	wantState(t, q, 3, 1, false)
	wantPop(t, q, 0, 64)
}

// P2.3

func TestAddLiesInMemory(t *testing.T) {
	m, q, _ := pair(t, 64, 4)
	old := all(t, m)
	wantAdd(t, q, 0, read(0x123, 0x10), write(0x200, 0x40), write(0x0ff0, 0x10))
	wantAdd(t, q, 3, read(0, 4096))
	want := described(0x123, 0x10, 1, 1) + described(0x200, 0x40, 3, 2) + described(0xff0, 0x10, 2, 0) + described(0, 4096, 0, 0)
	want += text(2, 0, 2) + text(2, 0, 3, 0, 0) + text(2, 0, 0) + noughts(32)
	if got := all(t, m); got != old[:64]+want+old[64+112:] {
		t.Errorf("%x, not %x", got[64:64+112], want)
	}
}

func TestAddLiesInAMemoryOfMost(t *testing.T) {
	m := filled(t, api.MaxMem)
	q := queue(t, m, 0, 2)
	wantAdd(t, q, 0, read(0, 65536), write(65535, 1))
	if s, _ := m.Text(0, 32); s != described(0, 65536, 1, 1)+described(65535, 1, 2, 0) {
		t.Errorf("%x", s)
	}
}

func TestAddOfEachSize(t *testing.T) {
	for n, bytes := range sizes {
		for k := 1; k <= n; k++ {
			m, q, _ := pair(t, 16, n)
			l, want := []api.Buf{}, ""
			for i := range k {
				flags := 2*min(2*i/k, 1) + 1
				l = append(l, api.Buf{At: 3000 + i, Len: i + 1, Write: flags == 3})
				if i+1 < k {
					want += described(3000+i, i+1, flags, i+1)
				} else {
					want += described(3000+i, i+1, flags-1, 0)
				}
			}
			wantAdd(t, q, 0, l...)
			wantState(t, q, n-k, 1, false)
			want += noughts(16*(n-k)) + text(2, 0, 1)
			if s, _ := m.Text(16, bytes); s != want+noughts(bytes-len(want)) {
				t.Errorf("%d of %d: %x", k, n, s)
			}
		}
	}
}

func TestAddTakesTheLeastNumbers(t *testing.T) {
	m, q, d := pair(t, 0, 8)
	for i := range 8 {
		wantAdd(t, q, i, reads(1)...)
	}
	for _, head := range []int{6, 1, 4, 3} {
		wantDone(t, d, uint32(head), 0)
		wantPop(t, q, head, 0)
	}
	wantAdd(t, q, 1, read(512, 1), read(513, 2), write(515, 3))
	if s, _ := m.Text(16, 16); s != described(512, 1, 1, 3) {
		t.Errorf("%x", s)
	}
	if s, _ := m.Text(48, 32); s != described(513, 2, 1, 4)+described(515, 3, 2, 0) {
		t.Errorf("%x", s)
	}
	wantState(t, q, 1, 5, false)
	wantAdd(t, q, 6, reads(1)...)
	wantNoAdd(t, q, api.ErrFull, reads(1)...)
	wantDone(t, d, 1, 3)
	wantPop(t, q, 1, 3)
	wantState(t, q, 3, 5, false)
}

func TestAddWritesDescriptorsAnew(t *testing.T) {
	m, q, d := pair(t, 0, 4)
	wantAdd(t, q, 0, read(512, 4), write(516, 4), write(520, 4), write(524, 4))
	wantDone(t, d, 0, 0)
	wantPop(t, q, 0, 0)
	wantAdd(t, q, 0, read(512, 4), read(516, 4))
	if s, _ := m.Text(0, 32); s != described(512, 4, 1, 1)+described(516, 4, 0, 0) {
		t.Errorf("%x", s)
	}
}

func TestAddRefusesForm(t *testing.T) {
	m, q, _ := pair(t, 0, 4)
	old := all(t, m)
	for _, l := range [][]api.Buf{
		nil, {},
		{read(512, 0)}, {write(512, 0)}, {read(512, -1)}, {write(512, -1)}, {read(512, math.MinInt)},
		{read(512, 4), read(512, 0)}, {read(512, 4), write(512, 4), write(512, -4)},
		{write(512, 4), read(512, 4)}, {read(512, 4), write(512, 4), read(512, 4)}, {write(512, 4), write(512, 4), write(512, 4), read(512, 4)},
		// ErrArg is ahead of ErrRange and ErrFull, wherever it is.
		{read(1<<62, 4), read(512, 0)}, {write(4095, 2), read(512, 1)}, {read(-1, 0)}, {read(4097, 0)}, append(reads(5), read(512, 0)), append(reads(64), write(0, 1), read(0, 1)),
	} {
		wantNoAdd(t, q, api.ErrArg, l...)
	}
	wantState(t, q, 4, 0, false)
	if all(t, m) != old {
		t.Error("an error changed bytes")
	}
}

func TestAddRefusesWhatIsOutside(t *testing.T) {
	m, q, _ := pair(t, 0, 4)
	old := all(t, m)
	for _, b := range []api.Buf{read(-1, 1), read(-1, 2), read(-1, 4097), read(4096, 1), read(4095, 2), read(0, 4097), read(1, 4096), read(1<<62, 1), read(math.MaxInt, 1), read(math.MaxInt, math.MaxInt), read(0, math.MaxInt), read(1, math.MaxInt), read(math.MinInt, 1), read(math.MinInt, math.MaxInt), read(1<<32, 1), read(0, 1<<32+1)} {
		wantNoAdd(t, q, api.ErrRange, b)
		b.Write = true
		wantNoAdd(t, q, api.ErrRange, b)
		wantNoAdd(t, q, api.ErrRange, read(512, 4), read(4095, 1), b)
		// ErrRange is ahead of ErrFull.
		wantNoAdd(t, q, api.ErrRange, append(reads(64), b)...)
	}
	wantState(t, q, 4, 0, false)
	if all(t, m) != old {
		t.Error("an error changed bytes")
	}
	wantAdd(t, q, 0, read(0, 4096), read(4095, 1), write(0, 1), write(4080, 16))
}

func TestAddRefusesWhenFull(t *testing.T) {
	for n := range sizes {
		for k := 1; k <= n; k++ {
			m, q, _ := pair(t, 0, n)
			old := all(t, m)
			wantNoAdd(t, q, api.ErrFull, reads(n+1)...)
			if all(t, m) != old {
				t.Error("an error changed bytes")
			}
			wantAdd(t, q, 0, reads(k)...)
			old = all(t, m)
			wantNoAdd(t, q, api.ErrFull, reads(n-k+1)...)
			wantState(t, q, n-k, 1, false)
			if all(t, m) != old {
				t.Error("an error changed bytes")
			}
			if k < n {
				wantAdd(t, q, k, reads(n-k)...)
			}
			wantNoAdd(t, q, api.ErrFull, reads(1)...)
			wantState(t, q, 0, min(2, n-k+1), false)
		}
	}
}

func TestAddKeepsNothingOfTheList(t *testing.T) {
	_, q, d := pair(t, 0, 4)
	spare := []api.Buf{read(512, 4), write(516, 4), write(520, 4)}
	old := slices.Clone(spare)
	l := spare[:2]
	wantAdd(t, q, 0, l...)
	if !slices.Equal(spare, old) {
		t.Error("the list is changed")
	}
	l[1] = read(0, 0)
	wantNext(t, d, 0, old[:2]...)
	wantDone(t, d, 0, 4)
	wantPop(t, q, 0, 4)
}

func TestAddTrustsNoIndexInMemory(t *testing.T) {
	m, q, _ := pair(t, 0, 4)
	wantAdd(t, q, 0, reads(1)...)
	put(t, m, 66, 2, 77)
	put(t, m, 0, 8, math.MaxUint64)
	put(t, m, 14, 2, 3)
	wantAdd(t, q, 1, reads(1)...)
	if s, _ := m.Text(64, 8); s != text(2, 0, 2, 0, 1) {
		t.Errorf("%x", s)
	}
}

// P2.4

func TestPopInTheOrderOfUse(t *testing.T) {
	_, q, d := pair(t, 0, 4)
	for i := range 4 {
		wantAdd(t, q, i, write(512, 10*(i+1)))
	}
	for i, head := range []int{2, 0, 3} {
		wantDone(t, d, uint32(head), uint32(5+i))
	}
	for i, head := range []int{2, 0, 3} {
		wantPop(t, q, head, 5+i)
		wantState(t, q, i+1, 3-i, false)
	}
	wantNoPop(t, q, api.ErrNone)
	wantState(t, q, 3, 1, false)
}

func TestPopOfLengths(t *testing.T) {
	for _, x := range []struct {
		l    []api.Buf
		room uint32
	}{
		{[]api.Buf{read(512, 64)}, 0},
		{[]api.Buf{write(512, 1)}, 1},
		{[]api.Buf{write(0, 4096)}, 4096},
		{[]api.Buf{read(512, 64), write(512, 3), write(512, 4)}, 7},
		{[]api.Buf{write(0, 4096), write(0, 4096), write(0, 4096), write(1, 1)}, 12289},
	} {
		for _, n := range []uint32{0, x.room / 2, x.room} {
			_, q, d := pair(t, 0, 4)
			wantAdd(t, q, 0, x.l...)
			wantDone(t, d, 0, n)
			wantPop(t, q, 0, int(n))
		}
		for _, n := range []uint32{x.room + 1, 1 << 16, 1 << 31, math.MaxUint32} {
			_, q, d := pair(t, 0, 4)
			wantAdd(t, q, 0, x.l...)
			wantDone(t, d, 0, n)
			wantNoPop(t, q, api.ErrForm)
			wantState(t, q, 4-len(x.l), 1, true)
		}
	}
}

func TestPopTrustsNoDescriptorInMemory(t *testing.T) {
	m, q, d := pair(t, 0, 4)
	wantAdd(t, q, 0, read(512, 4), write(516, 4))
	wantAdd(t, q, 2, write(520, 8))
	for at := 0; at < 64; at += 4 {
		put(t, m, at, 4, 0x00030003)
	}
	wantDone(t, d, 0, 4)
	wantDone(t, d, 2, 9)
	wantPop(t, q, 0, 4)
	wantState(t, q, 3, 1, false)
	wantNoPop(t, q, api.ErrForm)
	wantState(t, q, 3, 1, true)
}

func TestPopOfTheUsedIndex(t *testing.T) {
	for _, ahead := range indices {
		m, q, _ := pair(t, 0, 4)
		wantAdd(t, q, 0, reads(1)...)
		wantAdd(t, q, 1, reads(1)...)
		put(t, m, 76+4, 4, 1)
		put(t, m, 76+2, 2, uint64(ahead))
		switch {
		case ahead == 0:
			wantNoPop(t, q, api.ErrNone)
			wantState(t, q, 2, 2, false)
		case ahead <= 2:
			wantPop(t, q, 1, 0)
			wantState(t, q, 3, 1, false)
		default:
			wantNoPop(t, q, api.ErrForm)
			wantState(t, q, 2, 2, true)
		}
	}
}

func TestPopOfTheUsedIndexOfAFullQueue(t *testing.T) {
	for n := range sizes {
		for more := range 2 {
			_, q, d := pair(t, 0, n)
			for i := range n {
				wantAdd(t, q, i, reads(1)...)
			}
			for i := range n + more {
				wantDone(t, d, uint32(i%n), 0)
			}
			if more == 1 {
				wantNoPop(t, q, api.ErrForm)
				wantState(t, q, 0, n, true)
				continue
			}
			for i := range n {
				wantPop(t, q, i, 0)
			}
			wantState(t, q, n, 0, false)
		}
	}
}

func TestPopOfUsedIndicesThatFellBack(t *testing.T) {
	for _, used := range []uint64{0, 65535, 65534, 4, 32769} {
		m, q, d := pair(t, 0, 4)
		wantAdd(t, q, 0, reads(1)...)
		wantDone(t, d, 0, 0)
		wantPop(t, q, 0, 0)
		wantAdd(t, q, 0, reads(1)...)
		wantAdd(t, q, 1, reads(1)...)
		put(t, m, 76+2, 2, used)
		wantNoPop(t, q, api.ErrForm)
		wantState(t, q, 2, 2, true)
	}
}

func TestPopOfUsedIndicesThatGoRound(t *testing.T) {
	for more := range 4 {
		m, q, d := pair(t, 0, 4)
		for range 65535 {
			wantAdd(t, q, 0, reads(1)...)
			wantDone(t, d, 0, 0)
			wantPop(t, q, 0, 0)
		}
		wantAdd(t, q, 0, reads(1)...)
		wantAdd(t, q, 1, reads(1)...)
		m.Write(76+4, noughts(32))
		put(t, m, 76+2, 2, uint64(uint16(65535+more)))
		switch more {
		case 0:
			wantNoPop(t, q, api.ErrNone)
		case 1, 2:
			wantPop(t, q, 0, 0)
		default:
			wantNoPop(t, q, api.ErrForm)
		}
	}
}

func TestPopOfNumbers(t *testing.T) {
	for _, head := range []uint32{1, 2, 4, 5, 8, 64, 65535, 65536, 65539, 1 << 31, 1<<31 + 3, math.MaxUint32, math.MaxUint32 - 3} {
		m, q, d := pair(t, 0, 8)
		wantAdd(t, q, 0, read(512, 4), read(516, 4), write(520, 4))
		wantAdd(t, q, 3, reads(1)...)
		wantAdd(t, q, 4, reads(1)...)
		wantDone(t, d, 4, 0)
		wantPop(t, q, 4, 0)
		wantDone(t, d, head, 0)
		old := all(t, m)
		wantNoPop(t, q, api.ErrForm)
		wantState(t, q, 4, 2, true)
		if all(t, m) != old {
			t.Error("an error changed bytes")
		}
	}
}

func TestPopOfTheSameTwice(t *testing.T) {
	_, q, d := pair(t, 0, 4)
	wantAdd(t, q, 0, reads(1)...)
	wantAdd(t, q, 1, reads(1)...)
	wantDone(t, d, 0, 0)
	wantDone(t, d, 0, 0)
	wantPop(t, q, 0, 0)
	wantNoPop(t, q, api.ErrForm)
	wantState(t, q, 3, 1, true)
}

func TestBrokenTellsNothing(t *testing.T) {
	m, q, d := pair(t, 64, 4)
	wantAdd(t, q, 0, write(512, 4))
	wantDone(t, d, 0, 5)
	wantNoPop(t, q, api.ErrForm)
	// What is mended in memory is not looked at, and ErrState is ahead of the other errors.
	put(t, m, 64+76+8, 4, 4)
	old := all(t, m)
	for range 3 {
		wantNoPop(t, q, api.ErrState)
		wantNoAdd(t, q, api.ErrState, reads(1)...)
		wantNoAdd(t, q, api.ErrState)
		wantNoAdd(t, q, api.ErrState, read(512, 0))
		wantNoAdd(t, q, api.ErrState, read(1<<62, 1))
		wantNoAdd(t, q, api.ErrState, reads(5)...)
	}
	put(t, m, 64+76+2, 2, 0)
	wantNoPop(t, q, api.ErrState)
	put(t, m, 64+76+2, 2, 1)
	wantState(t, q, 3, 1, true)
	if all(t, m) != old {
		t.Error("a broken queue changed bytes")
	}
}

// P2.5

// wantNew holds that the queue at base is as behind New, and all other bytes are as they were.
func wantNew(t *testing.T, m *mem.Mem, q *virtq.Queue, base, n int, old string) {
	t.Helper()
	if all(t, m) != old[:base]+noughts(sizes[n])+old[base+sizes[n]:] {
		t.Error("its bytes are not noughts, or others are changed")
	}
	wantState(t, q, n, 0, false)
	wantNoPop(t, q, api.ErrNone)
	d := port(t, m, base, n)
	wantNoNext(t, d, api.ErrNone)
	for range 2 {
		wantAdd(t, q, 0, write(512, 4))
		wantNext(t, d, 0, write(512, 4))
		wantDone(t, d, 0, 4)
		wantPop(t, q, 0, 4)
	}
	wantAdd(t, q, 0, reads(n)...)
}

func TestResetOfABrokenOne(t *testing.T) {
	for n := range sizes {
		m, q, d := pair(t, 64, n)
		for i := range n {
			wantAdd(t, q, i, reads(1)...)
		}
		wantDone(t, d, 0, 0)
		wantPop(t, q, 0, 0)
		wantDone(t, d, 0, 1)
		old := all(t, m)
		wantNoPop(t, q, api.ErrForm)
		q.Reset()
		wantNew(t, m, q, 64, n, old)
	}
}

func TestResetOfOneAtWork(t *testing.T) {
	m, q, d := pair(t, 64, 4)
	for range 3 {
		wantAdd(t, q, 0, read(512, 4), write(516, 4))
		wantAdd(t, q, 2, write(516, 4))
		wantDone(t, d, 2, 1)
		wantDone(t, d, 0, 1)
		wantPop(t, q, 2, 1)
		wantPop(t, q, 0, 1)
	}
	wantAdd(t, q, 0, reads(3)...)
	wantDone(t, d, 0, 0)
	old := all(t, m)
	q.Reset()
	wantNew(t, m, q, 64, 4, old)
}

func TestResetOfANewOne(t *testing.T) {
	m, q, _ := pair(t, 64, 4)
	put(t, m, 64, 8, 1234)
	old := all(t, m)
	q.Reset()
	q.Reset()
	wantNew(t, m, q, 64, 4, old)
}

func TestWhatIsAskedChangesNothing(t *testing.T) {
	m, q, d := pair(t, 0, 4)
	wantAdd(t, q, 0, reads(3)...)
	wantDone(t, d, 0, 0)
	old := all(t, m)
	for range 3 {
		wantState(t, q, 1, 1, false)
	}
	if all(t, m) != old {
		t.Error("bytes are changed")
	}
	wantPop(t, q, 0, 0)
	wantNoPop(t, q, api.ErrNone)
}
