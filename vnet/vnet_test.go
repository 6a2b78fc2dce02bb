package vnet_test

import (
	"math"
	"slices"
	"strings"
	"testing"

	"blockyard/api"
	"blockyard/mem"
	"blockyard/virtq"
	"blockyard/vnet"
)

// Where things lie behind a base.
const (
	comesOffered = 128
	comesUsed    = 148
	goes         = 224
	goesUsed     = goes + 148
	buffers      = 448
	bufSize      = 616
	queueBytes   = 216
)

// filled is a memory of size bytes, none of which is 0.
func filled(t *testing.T, size int) *mem.Mem {
	t.Helper()
	b := make([]byte, size)
	for i := range b {
		b[i] = byte(i%255 + 1)
	}
	m, e := mem.New(size)
	if e != api.OK || m.Write(0, string(b)) != api.OK {
		t.Fatalf("a memory of %d bytes: %d", size, e)
	}
	return m
}

// all is every byte of m.
func all(t *testing.T, m *mem.Mem) string {
	t.Helper()
	return textAt(t, m, 0, m.Size())
}

func textAt(t *testing.T, m *mem.Mem, at, n int) string {
	t.Helper()
	s, e := m.Text(at, n)
	if e != api.OK {
		t.Fatalf("Text(%d, %d): %d", at, n, e)
	}
	return s
}

func put(t *testing.T, m *mem.Mem, at, n int, x uint64) {
	t.Helper()
	if e := m.Put(at, n, x); e != api.OK {
		t.Fatalf("Put(%d, %d): %d", at, n, e)
	}
}

func writeAt(t *testing.T, m *mem.Mem, at int, s string) {
	t.Helper()
	if e := m.Write(at, s); e != api.OK {
		t.Fatalf("Write(%d) of %d bytes: %d", at, len(s), e)
	}
}

func noughts(n int) string { return strings.Repeat("\x00", n) }

// frameOf is a frame of n bytes that are all others, from one on.
func frameOf(n, from int) string {
	b := make([]byte, n)
	for i := range b {
		b[i] = byte(from + i)
	}
	return string(b)
}

// framesOf are so many frames, all others.
func framesOf(count int) []string {
	l := []string{}
	for i := range count {
		l = append(l, frameOf(14+i, 20*i))
	}
	return l
}

func driver(t *testing.T, m *mem.Mem, base int) *vnet.Nic {
	t.Helper()
	n, e := vnet.New(m, base)
	if e != api.OK || n == nil {
		t.Fatalf("New(%d): %v, %d", base, n, e)
	}
	return n
}

func port(t *testing.T, m *mem.Mem, base int) *vnet.Port {
	t.Helper()
	p, e := vnet.Open(m, base)
	if e != api.OK || p == nil {
		t.Fatalf("Open(%d): %v, %d", base, p, e)
	}
	return p
}

// pair is a driver and its device in a memory of 16384 bytes of which none else is 0.
func pair(t *testing.T, base int) (*mem.Mem, *vnet.Nic, *vnet.Port) {
	t.Helper()
	m := filled(t, 16384)
	return m, driver(t, m, base), port(t, m, base)
}

// raw is the port of a queue of 8 entries at at, by which a device may tell what it likes.
func raw(t *testing.T, m *mem.Mem, at int) *virtq.Port {
	t.Helper()
	p, e := virtq.Open(m, at, 8)
	if e != api.OK {
		t.Fatalf("the queue's port: %d", e)
	}
	return p
}

func tell(t *testing.T, p *virtq.Port, head, length uint32) {
	t.Helper()
	if e := p.Done(head, length); e != api.OK {
		t.Fatalf("the queue's Done(%d, %d): %d", head, length, e)
	}
}

// comesAt is where a buffer for what comes begins, goesAt where one for what goes does.
func comesAt(base, i int) int { return base + buffers + bufSize*i }
func goesAt(base, i int) int  { return comesAt(base, 8+i) }

func wantReceive(t *testing.T, n *vnet.Nic, want ...string) {
	t.Helper()
	if l := n.Receive(); !slices.Equal(l, want) {
		t.Fatalf("Receive: %q, not %q", l, want)
	}
}

func wantSend(t *testing.T, n *vnet.Nic, want api.Errno, frame string) {
	t.Helper()
	if e := n.Send(frame); e != want {
		t.Fatalf("Send of %d bytes: %d, not %d", len(frame), e, want)
	}
}

func wantSends(t *testing.T, n *vnet.Nic, frames ...string) {
	t.Helper()
	for _, s := range frames {
		wantSend(t, n, api.OK, s)
	}
}

func wantCounts(t *testing.T, n *vnet.Nic, drops, resets int) {
	t.Helper()
	if n.Drops() != drops || n.Resets() != resets {
		t.Fatalf("Drops %d, Resets %d, not %d, %d", n.Drops(), n.Resets(), drops, resets)
	}
}

func wantDeliver(t *testing.T, p *vnet.Port, want api.Errno, frame string) {
	t.Helper()
	if e := p.Deliver(frame); e != want {
		t.Fatalf("Deliver of %d bytes: %d, not %d", len(frame), e, want)
	}
}

func wantDelivers(t *testing.T, p *vnet.Port, frames ...string) {
	t.Helper()
	for _, s := range frames {
		wantDeliver(t, p, api.OK, s)
	}
}

func wantSent(t *testing.T, p *vnet.Port, want ...string) {
	t.Helper()
	if l := p.Sent(); !slices.Equal(l, want) {
		t.Fatalf("Sent: %q, not %q", l, want)
	}
}

// waiting are the bytes of a queue of what comes into which nothing came yet.
func waiting(base int) string {
	s := ""
	for i := range 8 {
		s += mem.Little(uint64(comesAt(base, i)), 8) + mem.Little(612, 4) + mem.Little(2, 2) + noughts(2)
	}
	s += noughts(2) + mem.Little(8, 2)
	for i := range 8 {
		s += mem.Little(uint64(i), 2)
	}
	return s + noughts(queueBytes-len(s))
}

// badBases are those that are none, wherever a memory ends.
var badBases = []int{-16, -1, 1, 2, 4, 8, 15, 17, 24, -8, -10304, math.MinInt, math.MinInt + 8, math.MaxInt, math.MaxInt - 7}

// farBases are multiples of 16, behind which there are not Size bytes of 16384.
var farBases = []int{6096, 6112, 16384 - 448, 16384 - 224, 16368, 16384, 1 << 16, 1 << 32, 1 << 62, math.MaxInt - 15, math.MaxInt - 10303}

func TestSize(t *testing.T) {
	if vnet.Size != 10304 {
		t.Error(vnet.Size)
	}
}

// The chapter's examples.

func exampleOf(t *testing.T) (*vnet.Nic, *vnet.Port) {
	t.Helper()
	m, e := mem.New(16384)
	if e != api.OK {
		t.Fatal(e)
	}
	return driver(t, m, 0), port(t, m, 0)
}

func TestExamplesOfSend(t *testing.T) {
	n, d := exampleOf(t)
	wantSend(t, n, api.OK, frameOf(20, 1))
	wantSent(t, d, frameOf(20, 1))
	wantSend(t, n, api.ErrShort, frameOf(13, 1))
	wantSend(t, n, api.ErrLong, frameOf(601, 1))
}

func TestExamplesOfDeliver(t *testing.T) {
	n, d := exampleOf(t)
	f := frameOf(20, 1)
	wantDelivers(t, d, f, "ab", f)
	wantReceive(t, n, f, f)
	wantCounts(t, n, 1, 0)
}

func TestExamplesOfNine(t *testing.T) {
	n, d := exampleOf(t)
	f := frameOf(20, 1)
	wantDelivers(t, d, f, f, f, f, f, f, f, f)
	wantDeliver(t, d, api.ErrFull, f)
	wantReceive(t, n, f, f, f, f, f, f, f, f)
	wantDeliver(t, d, api.OK, f)
}
