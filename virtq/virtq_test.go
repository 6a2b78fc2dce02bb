package virtq_test

import (
	"math"
	"slices"
	"strings"
	"testing"

	"blockyard/api"
	"blockyard/mem"
	"blockyard/virtq"
)

// sizes are all numbers of entries that a queue may have, with the bytes of each.
var sizes = map[int]int{1: 36, 2: 60, 4: 112, 8: 216, 16: 424, 32: 840, 64: 1672}

// indices are some of those that the other side may write.
var indices = []int{0, 1, 2, 3, 4, 5, 6, 7, 8, 9, 64, 255, 256, 257, 258, 512, 32767, 32768, 32769, 65280, 65281, 65530, 65531, 65532, 65533, 65534, 65535}

// filled is a memory of size bytes, none of which is 0.
func filled(t *testing.T, size int) *mem.Mem {
	t.Helper()
	b := make([]byte, size)
	for i := range b {
		b[i] = byte(i%255 + 1)
	}
	m, e := mem.New(size)
	if e != api.OK || m.Write(0, string(b)) != api.OK {
		t.Fatalf("a memory of %d bytes: %d", size, e)
	}
	return m
}

// all is every byte of m.
func all(t *testing.T, m *mem.Mem) string {
	t.Helper()
	s, e := m.Text(0, m.Size())
	if e != api.OK {
		t.Fatalf("Text of all %d bytes: %d", m.Size(), e)
	}
	return s
}

func noughts(n int) string {
	return strings.Repeat("\x00", n)
}

// text is what the numbers are in so many bytes each, little.
func text(n int, l ...int) string {
	s := ""
	for _, x := range l {
		s += mem.Little(uint64(x), n)
	}
	return s
}

// described is a descriptor's bytes.
func described(at, length, flags, next int) string {
	return text(8, at) + text(4, length) + text(2, flags, next)
}

func queue(t *testing.T, m *mem.Mem, base, n int) *virtq.Queue {
	t.Helper()
	q, e := virtq.New(m, base, n)
	if e != api.OK || q == nil {
		t.Fatalf("New(%d, %d): %v, %d", base, n, q, e)
	}
	return q
}

func port(t *testing.T, m *mem.Mem, base, n int) *virtq.Port {
	t.Helper()
	p, e := virtq.Open(m, base, n)
	if e != api.OK || p == nil {
		t.Fatalf("Open(%d, %d): %v, %d", base, n, p, e)
	}
	return p
}

// pair is a queue of n entries at the base, and its port, in a memory of 4096 bytes of which none else is 0.
func pair(t *testing.T, base, n int) (*mem.Mem, *virtq.Queue, *virtq.Port) {
	t.Helper()
	m := filled(t, 4096)
	return m, queue(t, m, base, n), port(t, m, base, n)
}

// read and write are a chain's buffers.
func read(at, n int) api.Buf  { return api.Buf{At: at, Len: n} }
func write(at, n int) api.Buf { return api.Buf{At: at, Len: n, Write: true} }

// reads are k buffers of 4 bytes to be read, one behind the other.
func reads(k int) []api.Buf {
	l := []api.Buf{}
	for i := range k {
		l = append(l, read(2048+4*i, 4))
	}
	return l
}

func wantAdd(t *testing.T, q *virtq.Queue, head int, l ...api.Buf) {
	t.Helper()
	if h, e := q.Add(l); h != head || e != api.OK {
		t.Fatalf("Add%v: %d, %d, not %d", l, h, e, head)
	}
}

func wantNoAdd(t *testing.T, q *virtq.Queue, want api.Errno, l ...api.Buf) {
	t.Helper()
	if h, e := q.Add(l); h != 0 || e != want {
		t.Errorf("Add%v: %d, %d, not %d", l, h, e, want)
	}
}

func wantPop(t *testing.T, q *virtq.Queue, head, length int) {
	t.Helper()
	if h, n, e := q.Pop(); h != head || n != length || e != api.OK {
		t.Fatalf("Pop: %d, %d, %d, not %d, %d", h, n, e, head, length)
	}
}

func wantNoPop(t *testing.T, q *virtq.Queue, want api.Errno) {
	t.Helper()
	if h, n, e := q.Pop(); h != 0 || n != 0 || e != want {
		t.Errorf("Pop: %d, %d, %d, not %d", h, n, e, want)
	}
}

func wantNext(t *testing.T, p *virtq.Port, head int, l ...api.Buf) {
	t.Helper()
	if h, b, e := p.Next(); h != head || !slices.Equal(b, l) || e != api.OK {
		t.Fatalf("Next: %d, %v, %d, not %d, %v", h, b, e, head, l)
	}
}

func wantNoNext(t *testing.T, p *virtq.Port, want api.Errno) {
	t.Helper()
	if h, l, e := p.Next(); h != 0 || len(l) != 0 || e != want {
		t.Errorf("Next: %d, %v, %d, not %d", h, l, e, want)
	}
}

func wantDone(t *testing.T, p *virtq.Port, head, length uint32) {
	t.Helper()
	if e := p.Done(head, length); e != api.OK {
		t.Fatalf("Done(%d, %d): %d", head, length, e)
	}
}

// wantState holds what is told of the queue.
func wantState(t *testing.T, q *virtq.Queue, free, out int, broken bool) {
	t.Helper()
	if q.Free() != free || q.Out() != out || q.Broken() != broken {
		t.Errorf("Free %d, Out %d, Broken %v, not %d, %d, %v", q.Free(), q.Out(), q.Broken(), free, out, broken)
	}
}

func put(t *testing.T, m *mem.Mem, at, n int, x uint64) {
	t.Helper()
	if e := m.Put(at, n, x); e != api.OK {
		t.Fatalf("Put(%d, %d): %d", at, n, e)
	}
}

// P2.1

func TestFeatures(t *testing.T) {
	for _, x := range [][3]uint64{
		{virtq.Version, 0, virtq.Version},
		{virtq.Version, virtq.Version, virtq.Version},
		{virtq.Version, math.MaxUint64, virtq.Version},
		{virtq.Version | 3, 2, virtq.Version | 2},
		{virtq.Version | 3, virtq.Version | 6, virtq.Version | 2},
		{virtq.Version | 5, 10, virtq.Version},
		{math.MaxUint64, 0, virtq.Version},
		{math.MaxUint64, 1<<63 | 1<<33 | 1<<31 | 1, 1<<63 | 1<<33 | virtq.Version | 1<<31 | 1},
		{math.MaxUint64, math.MaxUint64, math.MaxUint64},
	} {
		if f, e := virtq.Features(x[0], x[1]); f != x[2] || e != api.OK {
			t.Errorf("Features(%x, %x): %x, %d, not %x", x[0], x[1], f, e, x[2])
		}
	}
}

func TestFeaturesWithoutVersion(t *testing.T) {
	for _, offered := range []uint64{0, 1, 3, 32, 1 << 31, 1 << 33, 1<<32 - 1, math.MaxUint64 - virtq.Version} {
		for _, known := range []uint64{0, 3, virtq.Version, math.MaxUint64} {
			if f, e := virtq.Features(offered, known); f != 0 || e != api.ErrKind {
				t.Errorf("Features(%x, %x): %x, %d", offered, known, f, e)
			}
		}
	}
}

func TestVersion(t *testing.T) {
	if virtq.Version != 4294967296 {
		t.Error(uint64(virtq.Version))
	}
}

func TestBytes(t *testing.T) {
	for n := -300; n <= 300; n++ {
		if virtq.Bytes(n) != sizes[n] {
			t.Errorf("Bytes(%d): %d, not %d", n, virtq.Bytes(n), sizes[n])
		}
	}
	for _, n := range []int{1 << 16, 1 << 20, 1 << 62, math.MaxInt, math.MinInt, math.MinInt + 4, -1 << 62} {
		if virtq.Bytes(n) != 0 {
			t.Errorf("Bytes(%d): %d", n, virtq.Bytes(n))
		}
	}
}

// The chapter's examples.

func exampleOf(t *testing.T) (*virtq.Queue, *virtq.Port) {
	m, e := mem.New(4096)
	if e != api.OK {
		t.Fatal(e)
	}
	return queue(t, m, 0, 4), port(t, m, 0, 4)
}

func TestExamplesOfOne(t *testing.T) {
	q, d := exampleOf(t)
	if virtq.Bytes(4) != 112 || virtq.Bytes(3) != 0 {
		t.Error(virtq.Bytes(4), virtq.Bytes(3))
	}
	wantAdd(t, q, 0, read(256, 16), write(512, 64))
	wantState(t, q, 2, 1, false)
	wantNext(t, d, 0, read(256, 16), write(512, 64))
	wantDone(t, d, 0, 64)
	wantPop(t, q, 0, 64)
	wantState(t, q, 4, 0, false)

	wantNoPop(t, q, api.ErrNone)
	wantDone(t, d, 3, 0)
	wantNoPop(t, q, api.ErrForm)
	wantNoPop(t, q, api.ErrState)
	wantState(t, q, 4, 0, true)
	q.Reset()
	wantNoPop(t, q, api.ErrNone)
}

func TestExamplesOfRefusals(t *testing.T) {
	q, _ := exampleOf(t)
	wantNoAdd(t, q, api.ErrArg)
	wantNoAdd(t, q, api.ErrRange, read(4090, 16))
	wantNoAdd(t, q, api.ErrFull, reads(5)...)
}
