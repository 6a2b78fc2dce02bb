package vblk_test

import (
	"math"
	"slices"
	"strings"
	"testing"

	"blockyard/api"
	"blockyard/mem"
	"blockyard/vblk"
	"blockyard/virtq"
)

// Where things lie behind a base.
const (
	offeredAt = 512
	usedAt    = 580
	slotsAt   = 848
	slotSize  = 96
)

// filled is a memory of size bytes, none of which is 0.
func filled(t *testing.T, size int) *mem.Mem {
	t.Helper()
	b := make([]byte, size)
	for i := range b {
		b[i] = byte(i%255 + 1)
	}
	m, e := mem.New(size)
	if e != api.OK || m.Write(0, string(b)) != api.OK {
		t.Fatalf("a memory of %d bytes: %d", size, e)
	}
	return m
}

// all is every byte of m.
func all(t *testing.T, m *mem.Mem) string {
	t.Helper()
	return textAt(t, m, 0, m.Size())
}

func textAt(t *testing.T, m *mem.Mem, at, n int) string {
	t.Helper()
	s, e := m.Text(at, n)
	if e != api.OK {
		t.Fatalf("Text(%d, %d): %d", at, n, e)
	}
	return s
}

func put(t *testing.T, m *mem.Mem, at, n int, x uint64) {
	t.Helper()
	if e := m.Put(at, n, x); e != api.OK {
		t.Fatalf("Put(%d, %d): %d", at, n, e)
	}
}

func noughts(n int) string { return strings.Repeat("\x00", n) }

// full is a sector of one byte.
func full(b byte) string { return strings.Repeat(string([]byte{b}), api.Sector) }

// sectorOf is a sector whose bytes are all others.
func sectorOf(from int) string {
	b := make([]byte, api.Sector)
	for i := range b {
		b[i] = byte(from + i)
	}
	return string(b)
}

func read(sector int) api.Order    { return api.Order{Kind: api.DiskRead, Sector: sector} }
func discard(sector int) api.Order { return api.Order{Kind: api.DiskDiscard, Sector: sector} }
func zero(sector int) api.Order    { return api.Order{Kind: api.DiskZero, Sector: sector} }
func write(sector int, data string) api.Order {
	return api.Order{Kind: api.DiskWrite, Sector: sector, Data: data}
}

var flush = api.Order{Kind: api.DiskFlush}

// good and bad are answers; none has data but of a read.
func good(id int, data ...string) api.Done {
	return api.Done{Id: id, OK: true, Data: strings.Join(data, "")}
}
func bad(id int) api.Done { return api.Done{Id: id} }

// bads are the answers of those that failed.
func bads(ids ...int) []api.Done {
	l := []api.Done{}
	for _, id := range ids {
		l = append(l, bad(id))
	}
	return l
}

func driver(t *testing.T, m *mem.Mem, base, sectors, limit int) *vblk.Blk {
	t.Helper()
	b, e := vblk.New(m, base, sectors, limit)
	if e != api.OK || b == nil {
		t.Fatalf("New(%d, %d, %d): %v, %d", base, sectors, limit, b, e)
	}
	return b
}

func port(t *testing.T, m *mem.Mem, base int) *vblk.Port {
	t.Helper()
	p, e := vblk.Open(m, base)
	if e != api.OK || p == nil {
		t.Fatalf("Open(%d): %v, %d", base, p, e)
	}
	return p
}

// pair is a driver and its device in a memory of 4096 bytes of which none else is 0.
func pair(t *testing.T, base, sectors, limit int) (*mem.Mem, *vblk.Blk, *vblk.Port) {
	t.Helper()
	m := filled(t, 4096)
	return m, driver(t, m, base, sectors, limit), port(t, m, base)
}

// raw is the queue's port of the driver at base, by which a device may tell what it likes.
func raw(t *testing.T, m *mem.Mem, base int) *virtq.Port {
	t.Helper()
	p, e := virtq.Open(m, base, 32)
	if e != api.OK {
		t.Fatalf("the queue's port: %d", e)
	}
	return p
}

func tell(t *testing.T, p *virtq.Port, head, length uint32) {
	t.Helper()
	if e := p.Done(head, length); e != api.OK {
		t.Fatalf("the queue's Done(%d, %d): %d", head, length, e)
	}
}

func wantSubmit(t *testing.T, b *vblk.Blk, id int, o api.Order) {
	t.Helper()
	if n, e := b.Submit(o); n != id || e != api.OK {
		t.Fatalf("Submit of %v: %d, %d, not %d", o, n, e, id)
	}
}

func wantNoSubmit(t *testing.T, b *vblk.Blk, want api.Errno, o api.Order) {
	t.Helper()
	if n, e := b.Submit(o); n != 0 || e != want {
		t.Errorf("Submit of %v: %d, %d, not %d", o, n, e, want)
	}
}

func wantPoll(t *testing.T, b *vblk.Blk, want ...api.Done) {
	t.Helper()
	if l := b.Poll(); !slices.Equal(l, want) {
		t.Fatalf("Poll: %v, not %v", l, want)
	}
}

func wantState(t *testing.T, b *vblk.Blk, dead bool, flight int) {
	t.Helper()
	if b.Dead() != dead || b.Flight() != flight {
		t.Errorf("Dead %v, Flight %d, not %v, %d", b.Dead(), b.Flight(), dead, flight)
	}
}

func ticks(b *vblk.Blk, n int) {
	for range n {
		b.Tick()
	}
}

func wantNext(t *testing.T, p *vblk.Port, head int, o api.Order) {
	t.Helper()
	if h, x, e := p.Next(); h != head || x != o || e != api.OK {
		t.Fatalf("Next: %d, %v, %d, not %d, %v", h, x, e, head, o)
	}
}

func wantNoNext(t *testing.T, p *vblk.Port, want api.Errno) {
	t.Helper()
	if h, o, e := p.Next(); h != 0 || o != (api.Order{}) || e != want {
		t.Fatalf("Next: %d, %v, %d, not %d", h, o, e, want)
	}
}

func wantDone(t *testing.T, p *vblk.Port, want api.Errno, head int, ok bool, data string) {
	t.Helper()
	if e := p.Done(head, ok, data); e != want {
		t.Fatalf("Done(%d, %v, %d bytes): %d, not %d", head, ok, len(data), e, want)
	}
}

func TestSize(t *testing.T) {
	if vblk.Size != 1616 {
		t.Error(vblk.Size)
	}
}

// badBases are those that are none, wherever a memory ends.
var badBases = []int{-16, -1, 1, 2, 8, 15, 17, 24, -8, -1616, math.MinInt, math.MinInt + 8, math.MaxInt, math.MaxInt - 7}

// farBases are multiples of 16, behind which there are not Size bytes.
var farBases = []int{4096 - 1600, 4080, 4096, 1 << 16, 1 << 32, 1 << 62, math.MaxInt - 15}

// The chapter's examples.

func exampleOf(t *testing.T) (*vblk.Blk, *vblk.Port) {
	t.Helper()
	m, e := mem.New(4096)
	if e != api.OK {
		t.Fatal(e)
	}
	return driver(t, m, 0, 8, 3), port(t, m, 0)
}

func TestExamplesOfOne(t *testing.T) {
	b, d := exampleOf(t)
	a := sectorOf(65)
	wantSubmit(t, b, 1, write(2, a))
	wantSubmit(t, b, 2, read(2))
	wantState(t, b, false, 2)
	wantNext(t, d, 0, write(2, a))
	wantNext(t, d, 3, read(2))

	wantDone(t, d, api.OK, 3, true, a)
	wantPoll(t, b, good(2, a))
	wantDone(t, d, api.OK, 0, false, "")
	wantPoll(t, b, bad(1))
	wantPoll(t, b)

	wantSubmit(t, b, 3, flush)
	ticks(b, 3)
	wantState(t, b, true, 1)
	wantNoSubmit(t, b, api.ErrDead, flush)
	wantPoll(t, b, bad(3))
}

func TestExamplesOfRefusals(t *testing.T) {
	b, _ := exampleOf(t)
	wantNoSubmit(t, b, api.ErrArg, read(8))
	wantNoSubmit(t, b, api.ErrArg, write(1, "ab"))
	wantNoSubmit(t, b, api.ErrKind, api.Order{Kind: 6})
}
