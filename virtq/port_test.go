package virtq_test

import (
	"math"
	"testing"

	"blockyard/api"
	"blockyard/mem"
	"blockyard/virtq"
)

// P2.2

func TestOpenLeavesTheBytes(t *testing.T) {
	m, q, d := pair(t, 64, 4)
	wantAdd(t, q, 0, read(512, 4), write(516, 4))
	wantAdd(t, q, 2, reads(1)...)
	wantNext(t, d, 0, read(512, 4), write(516, 4))
	wantDone(t, d, 0, 0)
	old := all(t, m)
	p := port(t, m, 64, 4)
	if all(t, m) != old {
		t.Error("Open changed bytes")
	}
	wantNext(t, p, 0, read(512, 4), write(516, 4))
	wantNext(t, p, 2, reads(1)...)
	wantNoNext(t, p, api.ErrNone)
	// It told nothing, so what it tells first is the first entry.
	wantDone(t, p, 2, 0)
	if s, _ := m.Text(64+76, 12); s != text(2, 0, 1)+text(4, 2, 0) {
		t.Errorf("%x", s)
	}
}

// noPorts are all the kinds of ports that Open did not make.
func noPorts(t *testing.T) []*virtq.Port {
	_, q, d := pair(t, 0, 4)
	wantAdd(t, q, 0, reads(1)...)
	copied := *d
	return []*virtq.Port{nil, {}, &copied}
}

func TestNoPort(t *testing.T) {
	for _, p := range noPorts(t) {
		wantNoNext(t, p, api.ErrNil)
		for _, x := range [][2]uint32{{0, 0}, {1, 64}, {math.MaxUint32, math.MaxUint32}} {
			if e := p.Done(x[0], x[1]); e != api.ErrNil {
				t.Errorf("Done%v: %d", x, e)
			}
		}
	}
}

func TestACopyLeavesThePort(t *testing.T) {
	m, q, d := pair(t, 0, 4)
	wantAdd(t, q, 0, reads(1)...)
	old := all(t, m)
	c := *d
	c.Next()
	c.Done(0, 0)
	if all(t, m) != old {
		t.Error("a copy changed bytes")
	}
	wantNext(t, d, 0, reads(1)...)
}

// P2.6

func TestNextInTheOrderOfOffers(t *testing.T) {
	m, q, d := pair(t, 64, 8)
	wantNoNext(t, d, api.ErrNone)
	wantAdd(t, q, 0, read(0, 1), read(4095, 1), write(0, 4096))
	wantNext(t, d, 0, read(0, 1), read(4095, 1), write(0, 4096))
	wantNoNext(t, d, api.ErrNone)
	wantAdd(t, q, 3, write(1, 2))
	wantAdd(t, q, 4, reads(4)...)
	wantDone(t, d, 3, 0)
	old := all(t, m)
	wantNext(t, d, 3, write(1, 2))
	wantNext(t, d, 4, reads(4)...)
	wantNoNext(t, d, api.ErrNone)
	if all(t, m) != old {
		t.Error("Next changed bytes")
	}
}

func TestNextOfAsManyAsMayBe(t *testing.T) {
	for n := range sizes {
		_, q, d := pair(t, 0, n)
		wantAdd(t, q, 0, reads(n)...)
		wantNext(t, d, 0, reads(n)...)

		_, q, d = pair(t, 0, n)
		for i := range n {
			wantAdd(t, q, i, reads(1)...)
		}
		for i := range n {
			wantNext(t, d, i, reads(1)...)
		}
		wantNoNext(t, d, api.ErrNone)
	}
}

func TestNextOfTheOfferedIndex(t *testing.T) {
	for _, ahead := range indices {
		m, _, d := pair(t, 0, 4)
		m.Write(0, described(512, 4, 0, 0)+described(516, 4, 0, 0))
		put(t, m, 68, 2, 1)
		put(t, m, 66, 2, uint64(ahead))
		switch {
		case ahead == 0:
			wantNoNext(t, d, api.ErrNone)
		case ahead <= 4:
			wantNext(t, d, 1, read(516, 4))
		default:
			wantNoNext(t, d, api.ErrForm)
		}
	}
}

// offered is a memory in which the descriptors stand that s is, of a queue of 4 at 0, and the chain with this head is offered.
func offered(t *testing.T, s string, head int) (*mem.Mem, *virtq.Port) {
	t.Helper()
	m, _, d := pair(t, 0, 4)
	m.Write(0, s)
	put(t, m, 68, 2, uint64(head))
	put(t, m, 66, 2, 1)
	return m, d
}

func TestNextOfNoChain(t *testing.T) {
	one, last := described(512, 4, 1, 1), described(512, 4, 0, 0)
	for name, x := range map[string]struct {
		s    string
		head int
	}{
		"head 4":                       {last + last + last + last, 4},
		"head 256":                     {last + last + last + last, 256},
		"head 65535":                   {last + last + last + last, 65535},
		"next 4":                       {described(512, 4, 1, 4), 0},
		"next 258":                     {described(512, 4, 1, 258) + last + last, 0},
		"next 65535":                   {described(512, 4, 1, 65535), 0},
		"next 4 behind another":        {one + described(512, 4, 1, 4), 0},
		"into itself":                  {described(512, 4, 1, 0), 0},
		"the last into itself":         {one + described(512, 4, 1, 1), 0},
		"back to the head":             {one + described(512, 4, 1, 0), 0},
		"all four in a ring":           {one + described(512, 4, 1, 2) + described(512, 4, 1, 3) + described(512, 4, 1, 0), 0},
		"a fifth":                      {one + described(512, 4, 1, 2) + described(512, 4, 1, 3) + described(512, 4, 1, 4), 0},
		"no bytes":                     {described(512, 0, 0, 0), 0},
		"no bytes to be written":       {described(512, 0, 2, 0), 0},
		"no bytes, last":               {one + described(512, 0, 0, 0), 0},
		"no bytes at the end":          {described(4096, 0, 0, 0), 0},
		"a byte beyond the end":        {described(4095, 2, 0, 0), 0},
		"at the end":                   {described(4096, 1, 0, 0), 0},
		"one more than there are":      {described(0, 4097, 0, 0), 0},
		"2^16 more than there may be":  {described(0, 65536+4, 0, 0), 0},
		"the greatest length":          {described(0, math.MaxUint32, 0, 0), 0},
		"far away":                     {described(1<<40, 4, 0, 0), 0},
		"where an int ends":            {described(math.MaxInt, 4, 0, 0), 0},
		"where an int begins":          {described(math.MinInt, 4, 0, 0), 0},
		"below noughts":                {described(-1, 1, 0, 0), 0},
		"round behind the greatest":    {described(-4, 8, 0, 0), 0},
		"outside, last":                {one + described(4095, 2, 0, 0), 0},
		"outside to be written":        {described(4095, 2, 2, 0), 0},
		"read behind write":            {described(512, 4, 3, 1) + last, 0},
		"read behind write, last":      {one + described(512, 4, 3, 2) + last, 0},
		"write, write, and then read":  {described(512, 4, 3, 1) + described(512, 4, 3, 2) + last, 0},
		"read behind write, then more": {described(512, 4, 3, 1) + described(512, 4, 1, 2) + last, 0},
	} {
		m, d := offered(t, x.s, x.head)
		old := all(t, m)
		for range 2 {
			if h, l, e := d.Next(); h != 0 || len(l) != 0 || e != api.ErrForm {
				t.Errorf("%s: %d, %v, %d", name, h, l, e)
			}
		}
		if all(t, m) != old {
			t.Errorf("%s: bytes are changed", name)
		}
		// An error takes nothing.
		m.Write(0, last+last+last+last)
		put(t, m, 68, 2, 2)
		wantNext(t, d, 2, read(512, 4))
		wantNoNext(t, d, api.ErrNone)
	}
}

// Whatever stands behind the descriptors, none of it is one.
func TestNextOfNumbersBehindTheDescriptors(t *testing.T) {
	last := described(512, 4, 0, 0)
	for number := 5; number < 256; number++ {
		for _, chain := range []struct{ s, head int }{{0, number}, {number, 0}} {
			m, d := offered(t, described(512, 4, 1, chain.s), chain.head)
			for at := 80; at < 4096; at += 16 {
				m.Write(at, last)
			}
			wantNoNext(t, d, api.ErrForm)
		}
	}
	// Number 4 is where what is offered begins: that can be a buffer only where the index is 0 again.
	m, d := offered(t, last+last, 0)
	put(t, m, 64+4+2*2, 2, 1)
	put(t, m, 76, 4, 0)
	for i := 1; i < 65536; i++ {
		put(t, m, 66, 2, uint64(i))
		if _, _, e := d.Next(); e != api.OK {
			t.Fatalf("Next, number %d: %d", i, e)
		}
	}
	m.Write(0, described(512, 4, 1, 4))
	put(t, m, 66, 2, 0)
	wantNoNext(t, d, api.ErrForm)
	m.Write(0, last)
	wantNext(t, d, 0, read(512, 4))
}

func TestNextOfIndicesThatFellBack(t *testing.T) {
	m, d := offered(t, described(512, 4, 0, 0), 0)
	wantNext(t, d, 0, read(512, 4))
	for _, offered := range []uint64{0, 65535, 65534, 6, 7, 32769} {
		put(t, m, 66, 2, offered)
		m.Write(68, noughts(8))
		wantNoNext(t, d, api.ErrForm)
	}
	put(t, m, 66, 2, 5)
	wantNext(t, d, 0, read(512, 4))
}

func TestNextOfAMemoryOfMost(t *testing.T) {
	m := filled(t, api.MaxMem)
	q, d := queue(t, m, 64, 4), port(t, m, 64, 4)
	wantAdd(t, q, 0, read(0, 65536), read(65535, 1), write(1, 65535))
	wantNext(t, d, 0, read(0, 65536), read(65535, 1), write(1, 65535))
}

func TestNextOfAChainInAnyPlaces(t *testing.T) {
	s := described(100, 1, 2, 9) + described(4095, 1, 1, 3) + described(0, 4096, 3, 0) + described(50, 7, 1, 2)
	_, d := offered(t, s, 1)
	wantNext(t, d, 1, read(4095, 1), read(50, 7), write(0, 4096), write(100, 1))
	_, d = offered(t, s, 0)
	wantNext(t, d, 0, write(100, 1))
}

func TestNextOfWhatIsBrokenOff(t *testing.T) {
	m, q, d := pair(t, 0, 4)
	wantAdd(t, q, 0, reads(1)...)
	wantNext(t, d, 0, reads(1)...)
	q.Reset()
	wantNoNext(t, d, api.ErrForm) // 0 offered is more than 1 taken by 65535
	wantNoNext(t, port(t, m, 0, 4), api.ErrNone)
}

func TestNextAnswersNewLists(t *testing.T) {
	m, q, d := pair(t, 0, 4)
	wantAdd(t, q, 0, reads(2)...)
	_, l, _ := d.Next()
	l[0], l[1] = write(1, 1), write(2, 2)
	wantNext(t, port(t, m, 0, 4), 0, reads(2)...)
}

func TestDoneOfAnyNumbers(t *testing.T) {
	m, _, d := pair(t, 64, 2)
	old := all(t, m)
	used := 64 + 40
	want := [2]string{noughts(8), noughts(8)}
	for i, x := range [][2]uint32{{0, 0}, {1, 64}, {7, 1 << 31}, {math.MaxUint32, math.MaxUint32}, {0x04030201, 0x14131211}} {
		wantDone(t, d, x[0], x[1])
		want[i%2] = text(4, int(x[0]), int(x[1]))
		if all(t, m) != old[:used]+text(2, 0, i+1)+want[0]+want[1]+old[used+20:] {
			t.Errorf("Done%v: %x", x, all(t, m)[64:used+20])
		}
	}
}

func TestDoneGoesRound(t *testing.T) {
	for n, bytes := range sizes {
		m, _, d := pair(t, 16, n)
		used := 16 + bytes - 8*n - 4
		for i := range 65536 + 2*n {
			wantDone(t, d, uint32(i), uint32(i+1))
			s, _ := m.Text(used+2, 2)
			entry, _ := m.Text(used+4+i%n*8, 8)
			if s != text(2, i+1) || entry != text(4, i, i+1) {
				t.Fatalf("%d entries, number %d: %x, %x", n, i, s, entry)
			}
		}
	}
}
