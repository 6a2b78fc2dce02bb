package vnet_test

import (
	"strings"
	"testing"

	"blockyard/api"
	"blockyard/mem"
	"blockyard/virtq"
	"blockyard/vnet"
)

// P4.2

func wantNoNew(t *testing.T, m *mem.Mem, want api.Errno, base int) {
	t.Helper()
	if n, e := vnet.New(m, base); n != nil || e != want {
		t.Errorf("New(%d): %v, %d, not %d", base, n, e, want)
	}
}

func TestNewOfBases(t *testing.T) {
	m := filled(t, 16384)
	old := all(t, m)
	for _, base := range badBases {
		wantNoNew(t, m, api.ErrArg, base)
	}
	for _, base := range farBases {
		wantNoNew(t, m, api.ErrRange, base)
	}
	if all(t, m) != old {
		t.Error("an error changed bytes")
	}
}

func TestNewOfNoMemory(t *testing.T) {
	for _, m := range []*mem.Mem{nil, {}} {
		for _, base := range []int{0, 8, -16, 1 << 32} {
			wantNoNew(t, m, api.ErrNil, base)
		}
	}
}

func TestNewAtTheEnd(t *testing.T) {
	for _, base := range []int{0, 16, 4096} {
		driver(t, filled(t, base+10304), base)
		for _, m := range []*mem.Mem{filled(t, base+10303), filled(t, base+448), filled(t, base+224), filled(t, base+1)} {
			old := all(t, m)
			wantNoNew(t, m, api.ErrRange, base)
			if all(t, m) != old {
				t.Error("an error changed bytes")
			}
		}
		wantNoNew(t, filled(t, base+10304), api.ErrRange, base+16)
	}
	driver(t, filled(t, api.MaxMem), api.MaxMem-10304)
	wantNoNew(t, filled(t, api.MaxMem), api.ErrRange, api.MaxMem-10304+16)
}

func TestNewLiesAsItMust(t *testing.T) {
	for _, base := range []int{0, 16, 32, 16384 - 10304} {
		m := filled(t, 16384)
		old := all(t, m)
		n := driver(t, m, base)
		if got, want := all(t, m), old[:base]+waiting(base)+noughts(10304-queueBytes)+old[base+10304:]; got != want {
			t.Errorf("base %d: its bytes are not as they must be, or others are changed", base)
		}
		wantCounts(t, n, 0, 0)
		wantReceive(t, n)
		wantSent(t, port(t, m, base))
	}
}

func TestNewOffersAllFromTheFirstOn(t *testing.T) {
	for _, base := range []int{0, 16, 6080} {
		m, _, p := pair(t, base)
		for i := range 8 {
			wantDeliver(t, p, api.OK, frameOf(14+i, i))
			if s := textAt(t, m, comesAt(base, i)+12, 14+i); s != frameOf(14+i, i) {
				t.Errorf("buffer %d: % x", i, s)
			}
		}
		wantDeliver(t, p, api.ErrFull, frameOf(14, 1))
	}
}

// P4.3

// come lets a device tell that length bytes stand in the buffer i, which are a head and a frame of the bytes from from on.
func come(t *testing.T, m *mem.Mem, p *virtq.Port, base, i, length, from int) {
	t.Helper()
	writeAt(t, m, comesAt(base, i), noughts(12)+frameOf(600, from))
	tell(t, p, uint32(i), uint32(length))
}

func TestReceiveOfLengths(t *testing.T) {
	m, n, _ := pair(t, 32)
	p := raw(t, m, 32)
	drops := 0
	for k := range 613 {
		i := k % 8
		come(t, m, p, 32, i, k, k)
		if k < 26 {
			drops++
			wantReceive(t, n)
		} else {
			wantReceive(t, n, frameOf(k-12, k))
		}
		wantCounts(t, n, drops, 0)
		wantReceive(t, n)
	}
	come(t, m, p, 32, 0, 613, 0)
	wantReceive(t, n)
	wantCounts(t, n, drops+1, 1)
}

func TestReceiveOfHeads(t *testing.T) {
	m, n, _ := pair(t, 0)
	p := raw(t, m, 0)
	drops := 0
	for at := range 12 {
		for x := 1; x < 256; x++ {
			come(t, m, p, 0, x%8, 26, at)
			put(t, m, comesAt(0, x%8)+at, 1, uint64(x))
			if at == 1 {
				drops++
				wantReceive(t, n)
			} else {
				wantReceive(t, n, frameOf(14, at))
			}
			wantCounts(t, n, drops, 0)
		}
	}
}

func TestReceiveInTheOrderThatCameBack(t *testing.T) {
	m, n, _ := pair(t, 16)
	p := raw(t, m, 16)
	order := []int{6, 1, 7, 0, 3, 5, 2, 4}
	want := []string{}
	for _, i := range order {
		come(t, m, p, 16, i, 26+i, 10*i)
		want = append(want, frameOf(14+i, 10*i))
	}
	for range 8 {
		if _, _, e := p.Next(); e != api.OK {
			t.Fatal(e)
		}
	}
	wantReceive(t, n, want...)
	// They are offered again in that order, each as it was.
	for _, i := range order {
		head, l, e := p.Next()
		if head != i || len(l) != 1 || l[0] != (api.Buf{At: comesAt(16, i), Len: 612, Write: true}) || e != api.OK {
			t.Fatalf("buffer %d: %d, %v, %d", i, head, l, e)
		}
	}
	if _, _, e := p.Next(); e != api.ErrNone {
		t.Errorf("more than 8 are offered: %d", e)
	}
	wantReceive(t, n)
	wantCounts(t, n, 0, 0)
}

func TestReceiveOffersWhatItDrops(t *testing.T) {
	m, n, p := pair(t, 0)
	for round := range 20 {
		for i := range 8 {
			wantDeliver(t, p, api.OK, frameOf(i, 1))
		}
		put(t, m, comesAt(0, 0)+1, 1, 1)
		wantDeliver(t, p, api.ErrFull, frameOf(14, 1))
		wantReceive(t, n)
		wantCounts(t, n, 8*round+8, 0)
	}
	wantDelivers(t, p, framesOf(8)...)
	wantReceive(t, n, framesOf(8)...)
}

func TestReceiveOfSomeAmongTheDropped(t *testing.T) {
	m, n, p := pair(t, 0)
	wantDelivers(t, p, frameOf(13, 1), frameOf(14, 2), "", frameOf(600, 3), frameOf(20, 4), frameOf(21, 5))
	put(t, m, comesAt(0, 4)+1, 1, 3)
	wantReceive(t, n, frameOf(14, 2), frameOf(600, 3), frameOf(21, 5))
	wantCounts(t, n, 3, 0)
}

func TestReceiveOffersAtOnce(t *testing.T) {
	m, n, _ := pair(t, 0)
	p := raw(t, m, 0)
	// A chain that a device tells twice is out again, when it is told again.
	come(t, m, p, 0, 2, 30, 5)
	tell(t, p, 2, 31)
	wantReceive(t, n, frameOf(18, 5), frameOf(19, 5))
	wantCounts(t, n, 0, 0)
}

// breaks are what a device may tell that breaks a queue, of which the chain with the given head is out.
func breaks() map[string]func(t *testing.T, p *virtq.Port, head uint32) {
	return map[string]func(*testing.T, *virtq.Port, uint32){
		"no head":      func(t *testing.T, p *virtq.Port, head uint32) { tell(t, p, 8, 0) },
		"a far head":   func(t *testing.T, p *virtq.Port, head uint32) { tell(t, p, 1<<32-1, 0) },
		"a length":     func(t *testing.T, p *virtq.Port, head uint32) { tell(t, p, head, 613) },
		"a far length": func(t *testing.T, p *virtq.Port, head uint32) { tell(t, p, head, 1<<32-1) },
	}
}

// wantAnew holds that a queue of what comes was reset: as it was at first, and all else in m as old has it.
func wantAnew(t *testing.T, m *mem.Mem, base int, old string) {
	t.Helper()
	if got, want := all(t, m), old[:base]+waiting(base)+old[base+queueBytes:]; got != want {
		t.Fatal("the queue is not as it was at first, or other bytes are changed")
	}
}

func TestReceiveOfABrokenQueue(t *testing.T) {
	for name, act := range breaks() {
		for told := range 8 {
			m, n, _ := pair(t, 48)
			p := raw(t, m, 48)
			want := []string{}
			for i := range told {
				come(t, m, p, 48, i, 26+i, i)
				want = append(want, frameOf(14+i, i))
			}
			act(t, p, uint32(told))
			for i := told + 1; i < 8; i++ { // what is told behind it goes
				come(t, m, p, 48, i, 26, i)
			}
			old := all(t, m)
			wantReceive(t, n, want...)
			wantCounts(t, n, 1, 1)
			wantAnew(t, m, 48, old)
			wantReceive(t, n)
			wantCounts(t, n, 1, 1)
			d := port(t, m, 48)
			wantDelivers(t, d, framesOf(8)...)
			wantDeliver(t, d, api.ErrFull, frameOf(14, 1))
			wantReceive(t, n, framesOf(8)...)
			wantDelivers(t, d, framesOf(8)...)
			if t.Failed() {
				t.Fatal(name, told)
			}
		}
	}
}

func TestReceiveOfAnIndexTooFar(t *testing.T) {
	for _, ahead := range []uint64{9, 10, 1000, 60000, 65535} {
		for gone := range 10 {
			m, n, p := pair(t, 0)
			for range gone {
				wantDelivers(t, p, frameOf(14, 1))
				wantReceive(t, n, frameOf(14, 1))
			}
			wantDelivers(t, p, framesOf(3)...)
			put(t, m, comesUsed+2, 2, uint64(gone)+ahead)
			old := all(t, m)
			wantReceive(t, n)
			wantCounts(t, n, 1, 1)
			wantAnew(t, m, 0, old)
		}
	}
}

func TestReceiveDropsAndBreaks(t *testing.T) {
	m, n, p := pair(t, 0)
	wantDelivers(t, p, "ab", frameOf(20, 1), frameOf(13, 1), frameOf(21, 1))
	put(t, m, comesUsed+4+8*3+4, 4, 613)
	wantReceive(t, n, frameOf(20, 1))
	wantCounts(t, n, 3, 1)
}

func TestReceiveBreaksAgainAndAgain(t *testing.T) {
	m, n, _ := pair(t, 0)
	for i := range 50 {
		come(t, m, raw(t, m, 0), 0, 3, 40, i)
		put(t, m, comesUsed+2, 2, 2)
		put(t, m, comesUsed+4+8, 4, uint64(8+i))
		wantReceive(t, n, frameOf(28, i))
		wantCounts(t, n, i+1, i+1)
	}
	wantSend(t, n, api.OK, frameOf(14, 1))
	wantCounts(t, n, 50, 50)
}

func TestReceiveLeavesWhatGoes(t *testing.T) {
	m, n, p := pair(t, 0)
	wantSends(t, n, framesOf(3)...)
	put(t, m, goesUsed+2, 2, 60000) // broken, but it is Send's to find that
	put(t, m, comesUsed+2, 2, 60000)
	old := all(t, m)
	wantReceive(t, n)
	wantCounts(t, n, 1, 1)
	wantAnew(t, m, 0, old)
	wantSent(t, p, framesOf(3)...)
}

func TestReceivedFramesStay(t *testing.T) {
	m, n, p := pair(t, 0)
	wantDelivers(t, p, frameOf(20, 1))
	l := n.Receive()
	writeAt(t, m, comesAt(0, 0), strings.Repeat("x", 616))
	wantDelivers(t, p, frameOf(30, 2))
	wantReceive(t, n, frameOf(30, 2))
	if len(l) != 1 || l[0] != frameOf(20, 1) {
		t.Errorf("%q", l)
	}
}

// P4.4

// wantGoes holds that what is offered next to go is this frame, in this buffer, and answers its chain's head.
func wantGoes(t *testing.T, m *mem.Mem, p *virtq.Port, base, i int, frame string) int {
	t.Helper()
	head, l, e := p.Next()
	if len(l) != 1 || l[0] != (api.Buf{At: goesAt(base, i), Len: 12 + len(frame)}) || e != api.OK {
		t.Fatalf("what goes: %d, %v, %d, and not buffer %d", head, l, e, i)
	}
	if s := textAt(t, m, l[0].At, l[0].Len); s != noughts(12)+frame {
		t.Fatalf("in buffer %d: % x", i, s)
	}
	return head
}

func TestSendOfLengths(t *testing.T) {
	m, n, p := pair(t, 16)
	for k := range 700 {
		old, want := all(t, m), api.OK
		switch {
		case k < 14:
			want = api.ErrShort
		case k > 600:
			want = api.ErrLong
		}
		wantSend(t, n, want, frameOf(k, k))
		if want == api.OK {
			wantSent(t, p, frameOf(k, k))
		} else if all(t, m) != old {
			t.Errorf("%d bytes: an error changed bytes", k)
		}
	}
	wantSent(t, p)
	wantSend(t, n, api.ErrLong, strings.Repeat("a", 1<<20))
	wantCounts(t, n, 0, 0)
}

func TestSendLiesAsItMust(t *testing.T) {
	for _, base := range []int{0, 32, 6080} {
		for _, k := range []int{14, 20, 600} {
			m, n, _ := pair(t, base)
			old := all(t, m)
			wantSends(t, n, frameOf(k, 3))
			want := []byte(old)
			queue := mem.Little(uint64(goesAt(base, 0)), 8) + mem.Little(uint64(12+k), 4) + noughts(4)
			copy(want[base+goes:], queue)
			copy(want[base+goes+comesOffered:], noughts(2)+"\x01\x00")
			copy(want[goesAt(base, 0):], noughts(12)+frameOf(k, 3))
			if all(t, m) != string(want) {
				t.Errorf("base %d, %d bytes: they are not as they must be, or others are changed", base, k)
			}
		}
	}
}

func TestSendWritesAHeadOfNoughts(t *testing.T) {
	m, n, _ := pair(t, 0)
	writeAt(t, m, goesAt(0, 0), strings.Repeat("\xff", 8*616))
	wantSends(t, n, framesOf(8)...)
	p := raw(t, m, goes)
	for i, s := range framesOf(8) {
		wantGoes(t, m, p, 0, i, s)
		if s := textAt(t, m, goesAt(0, i)+12+len(s), 616-12-len(s)); s != strings.Repeat("\xff", len(s)) {
			t.Errorf("buffer %d: bytes behind the frame are changed", i)
		}
	}
}

func TestSendOfEightAndOneMore(t *testing.T) {
	m, n, p := pair(t, 0)
	for round := range 20 {
		wantSends(t, n, framesOf(8)...)
		old := all(t, m)
		for range 3 {
			wantSend(t, n, api.ErrFull, frameOf(14, 1))
		}
		wantSend(t, n, api.ErrShort, frameOf(13, 1))
		wantSend(t, n, api.ErrLong, frameOf(601, 1))
		if all(t, m) != old {
			t.Fatalf("round %d: an error changed bytes", round)
		}
		wantSent(t, p, framesOf(8)...)
	}
	wantCounts(t, n, 0, 0)
}

func TestSendTakesTheOneThatIsFreeLongest(t *testing.T) {
	m, n, _ := pair(t, 16)
	p := raw(t, m, 16+goes)
	heads := map[int]int{} // of the chains that are out, by their buffers
	send := func(i int) {
		t.Helper()
		s := frameOf(14+i, i)
		wantSends(t, n, s)
		heads[i] = wantGoes(t, m, p, 16, i, s)
	}
	back := func(l ...int) {
		t.Helper()
		for _, i := range l {
			tell(t, p, uint32(heads[i]), 0)
		}
	}
	for i := range 5 {
		send(i)
	}
	back(3, 1, 4)
	for _, i := range []int{5, 6, 7, 3, 1} {
		send(i)
	}
	back(7, 0)
	back(1)
	for _, i := range []int{4, 7, 0, 1} {
		send(i)
	}
	wantSend(t, n, api.ErrFull, frameOf(14, 1))
	back(6)
	send(6)
	wantSend(t, n, api.ErrFull, frameOf(14, 1))
	back(5, 2, 0, 3)
	for _, i := range []int{5, 2, 0, 3} {
		send(i)
	}
	wantSend(t, n, api.ErrFull, frameOf(14, 1))
}

// wantGoesAnew holds that the queue of what goes was reset, and that the frames go anew, the first of which was sent ahead.
func wantGoesAnew(t *testing.T, m *mem.Mem, n *vnet.Nic, base int, first string) {
	t.Helper()
	p := raw(t, m, base+goes)
	wantGoes(t, m, p, base, 0, first)
	if _, _, e := p.Next(); e != api.ErrNone {
		t.Fatalf("more than one is offered: %d", e)
	}
	want := mem.Little(uint64(goesAt(base, 0)), 8) + mem.Little(uint64(12+len(first)), 4) + noughts(4+7*16+2) + "\x01"
	if s := textAt(t, m, base+goes, queueBytes); s != want+noughts(queueBytes-len(want)) {
		t.Fatalf("the queue is not as it was at first: % x", s)
	}
	for i := 1; i < 8; i++ {
		wantSends(t, n, frameOf(14+i, i))
		wantGoes(t, m, p, base, i, frameOf(14+i, i))
	}
	wantSend(t, n, api.ErrFull, frameOf(14, 1))
	tell(t, p, 5, 0)
	wantSends(t, n, frameOf(15, 5))
	wantGoes(t, m, p, base, 5, frameOf(15, 5))
	wantSend(t, n, api.ErrFull, frameOf(14, 1))
}

func TestSendIntoABrokenQueue(t *testing.T) {
	for name, act := range breaks() {
		for told := range 8 {
			m, n, p := pair(t, 48)
			wantSends(t, n, framesOf(8)...)
			q := raw(t, m, 48+goes)
			for i := range told {
				tell(t, q, uint32(7-i), 0)
			}
			act(t, q, 0)
			for i := range 7 - told { // what is told behind it goes
				tell(t, q, uint32(i), 0)
			}
			wantSend(t, n, api.ErrShort, frameOf(13, 1))
			wantSend(t, n, api.ErrLong, frameOf(601, 1))
			wantReceive(t, n)
			wantCounts(t, n, 0, 0)
			wantDelivers(t, p, framesOf(3)...)
			wantSend(t, n, api.OK, frameOf(77, 7))
			wantCounts(t, n, 0, 1)
			wantGoesAnew(t, m, n, 48, frameOf(77, 7))
			wantReceive(t, n, framesOf(3)...)
			wantCounts(t, n, 0, 1)
			if t.Failed() {
				t.Fatal(name, told)
			}
		}
	}
}

func TestSendBreaksForALength(t *testing.T) {
	m, n, _ := pair(t, 0)
	wantSends(t, n, framesOf(3)...)
	tell(t, raw(t, m, goes), 0, 1) // of what goes the device writes nothing
	wantSends(t, n, frameOf(50, 1))
	wantCounts(t, n, 0, 1)
	wantGoesAnew(t, m, n, 0, frameOf(50, 1))
}

func TestSendOfAnIndexTooFar(t *testing.T) {
	for out := range 9 {
		for _, ahead := range []int{out + 1, out + 2, 9, 1000, 65535} {
			m, n, _ := pair(t, 0)
			wantSends(t, n, framesOf(out)...)
			for i := range 8 {
				put(t, m, goesUsed+4+8*i, 4, uint64(i))
			}
			put(t, m, goesUsed+2, 2, uint64(ahead))
			wantSends(t, n, frameOf(60, 2))
			wantCounts(t, n, 0, 1)
			wantGoesAnew(t, m, n, 0, frameOf(60, 2))
		}
	}
}

func TestSendBreaksForAHeadThatIsNotOut(t *testing.T) {
	m, n, _ := pair(t, 0)
	wantSends(t, n, framesOf(4)...)
	q := raw(t, m, goes)
	tell(t, q, 2, 0)
	tell(t, q, 2, 0)
	wantSends(t, n, frameOf(33, 3))
	wantCounts(t, n, 0, 1)
	wantGoesAnew(t, m, n, 0, frameOf(33, 3))
}

func TestSendBreaksAgainAndAgain(t *testing.T) {
	m, n, _ := pair(t, 0)
	for i := range 50 {
		put(t, m, goesUsed+2, 2, uint64(100+i))
		wantSends(t, n, frameOf(14+i, i))
		wantCounts(t, n, 0, i+1)
		wantSent(t, port(t, m, 0), frameOf(14+i, i))
	}
	wantDelivers(t, port(t, m, 0), frameOf(14, 1))
	wantReceive(t, n, frameOf(14, 1))
}

func TestSendLeavesWhatComes(t *testing.T) {
	m, n, _ := pair(t, 0)
	put(t, m, comesUsed+2, 2, 60000) // broken, but it is Receive's to find that
	put(t, m, goesUsed+2, 2, 60000)
	wantSends(t, n, frameOf(14, 1))
	wantCounts(t, n, 0, 1)
	wantReceive(t, n)
	wantCounts(t, n, 1, 2)
}

func TestNicThatNewDidNotMake(t *testing.T) {
	m, n, p := pair(t, 0)
	wantSends(t, n, framesOf(2)...)
	put(t, m, comesUsed+2, 2, 60000)
	wantReceive(t, n)
	p = port(t, m, 0)
	wantDelivers(t, p, framesOf(3)...)
	copied := *n
	old := all(t, m)
	for name, x := range map[string]*vnet.Nic{"nil": nil, "zero": {}, "copied": &copied} {
		for _, k := range []int{0, 13, 14, 600, 601} {
			if e := x.Send(frameOf(k, 1)); e != api.ErrNil {
				t.Errorf("%s: Send of %d bytes: %d", name, k, e)
			}
		}
		if l := x.Receive(); len(l) != 0 {
			t.Errorf("%s: Receive: %q", name, l)
		}
		if x.Drops() != 0 || x.Resets() != 0 {
			t.Errorf("%s: Drops %d, Resets %d", name, x.Drops(), x.Resets())
		}
	}
	if all(t, m) != old {
		t.Error("one that New did not make changed bytes")
	}
	wantReceive(t, n, framesOf(3)...)
	wantCounts(t, n, 1, 1)
}
