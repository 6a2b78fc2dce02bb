package virtq_test

import (
	"math/rand"
	"slices"
	"testing"

	"blockyard/api"
	"blockyard/mem"
	"blockyard/virtq"
)

// P2.7

// sent is a chain that is out: what was offered, and, when it was told, its length.
type sent struct {
	head, length int
	l            []api.Buf
}

// room is how many bytes of it may be written.
func (s sent) room() int {
	n := 0
	for _, b := range s.l {
		if b.Write {
			n += b.Len
		}
	}
	return n
}

// chainOf is a chain of k buffers in size bytes, that may be offered.
func chainOf(r *rand.Rand, size, k int) []api.Buf {
	l := []api.Buf{}
	from := r.Intn(k + 1)
	for i := range k {
		n := 1 + r.Intn(size)
		l = append(l, api.Buf{At: r.Intn(size - n + 1), Len: n, Write: i >= from})
	}
	return l
}

// model is a driver, a device as it should be, and the chains that are on their way, by how far they are.
type model struct {
	t                    *testing.T
	r                    *rand.Rand
	q                    *virtq.Queue
	d                    *virtq.Port
	n                    int
	offered, taken, told []sent
}

// free is how many descriptors are free.
func (x *model) free() int {
	free := x.n
	for _, l := range [][]sent{x.offered, x.taken, x.told} {
		for _, s := range l {
			free -= len(s.l)
		}
	}
	return free
}

func (x *model) add() {
	k := 1 + x.r.Intn(x.n+1)
	l := chainOf(x.r, 4096, k)
	head, e := x.q.Add(l)
	if k > x.free() {
		if head != 0 || e != api.ErrFull {
			x.t.Fatalf("Add of %d: %d, %d", k, head, e)
		}
		return
	}
	if e != api.OK {
		x.t.Fatalf("Add of %d: %d", k, e)
	}
	x.offered = append(x.offered, sent{head: head, l: l})
}

func (x *model) next() {
	if len(x.offered) == 0 {
		wantNoNext(x.t, x.d, api.ErrNone)
		return
	}
	wantNext(x.t, x.d, x.offered[0].head, x.offered[0].l...)
	x.taken = append(x.taken, x.offered[0])
	x.offered = x.offered[1:]
}

func (x *model) done() {
	if len(x.taken) == 0 {
		return
	}
	i := x.r.Intn(len(x.taken))
	s := x.taken[i]
	s.length = x.r.Intn(s.room() + 1)
	wantDone(x.t, x.d, uint32(s.head), uint32(s.length))
	x.taken = slices.Delete(x.taken, i, i+1)
	x.told = append(x.told, s)
}

func (x *model) pop() {
	if len(x.told) == 0 {
		wantNoPop(x.t, x.q, api.ErrNone)
		return
	}
	wantPop(x.t, x.q, x.told[0].head, x.told[0].length)
	x.told = x.told[1:]
}

func (x *model) out() int {
	return len(x.offered) + len(x.taken) + len(x.told)
}

func TestAllGoesThereAndComesBack(t *testing.T) {
	for n := range sizes {
		_, q, d := pair(t, 32, n)
		x := &model{t: t, r: rand.New(rand.NewSource(int64(n))), q: q, d: d, n: n}
		acts := []func(){x.add, x.add, x.next, x.done, x.pop}
		for range 20000 {
			acts[x.r.Intn(len(acts))]()
			wantState(t, q, x.free(), x.out(), false)
		}
		for x.out() > 0 {
			x.next()
			x.done()
			x.pop()
		}
		wantState(t, q, n, 0, false)
		wantNoPop(t, q, api.ErrNone)
		wantNoNext(t, d, api.ErrNone)
	}
}

func TestIndicesGoRound(t *testing.T) {
	for n := range sizes {
		m, q, d := pair(t, 0, n)
		for i := range 65536 + 3*n {
			head := 0
			if n > 1 && i%2 == 1 { // one stays out, so that the heads are not all 0
				head = 1
			}
			wantAdd(t, q, head, write(2048, 8))
			wantNext(t, d, head, write(2048, 8))
			if n == 1 || i%2 == 1 {
				wantDone(t, d, uint32(head), uint32(i%9))
				wantPop(t, q, head, i%9)
			}
			if n > 1 && i%2 == 1 {
				wantDone(t, d, 0, 8)
				wantPop(t, q, 0, 8)
			}
			wantNoPop(t, q, api.ErrNone)
			wantNoNext(t, d, api.ErrNone)
			if x, _ := m.Get(16*n+2, 2); x != uint64(uint16(i+1)) {
				t.Fatalf("%d entries, offered %d: %d", n, i+1, x)
			}
		}
		wantState(t, q, n, 0, false)
	}
}

func TestAsManyAsMayBeOutGoRound(t *testing.T) {
	_, q, d := pair(t, 0, 64)
	for i := range 65536 + 128 {
		if i >= 64 {
			wantDone(t, d, uint32(i%64), 1)
			wantPop(t, q, i%64, 1)
		}
		wantAdd(t, q, i%64, write(2048, 1))
		wantNext(t, d, i%64, write(2048, 1))
	}
	wantState(t, q, 0, 64, false)
}

// spoil writes something into the memory, as a device might: into the queue's bytes mostly, and numbers that are near to what is right.
func spoil(r *rand.Rand, m *mem.Mem, base, n int) {
	bytes := sizes[n]
	used := base + bytes - 8*n - 4
	near := uint64(r.Intn(2*n + 2))
	switch r.Intn(8) {
	case 0:
		m.Put(used+2, 2, near)
	case 1:
		m.Put(used+4+8*r.Intn(n), 4, near)
	case 2:
		m.Put(used+8+8*r.Intn(n), 4, near)
	case 3:
		m.Put(base+16*n+2, 2, near)
	case 4:
		m.Put(base+16*r.Intn(n)+12, 2, uint64(r.Intn(4)))
	case 5:
		m.Put(base+16*r.Intn(n)+14, 2, near)
	case 6:
		m.Put(base+2*r.Intn(bytes/2), 2, r.Uint64())
	default:
		m.Put(r.Intn(m.Size()-7), 1+r.Intn(8), r.Uint64())
	}
}

// hostile is a driver, a device that writes anything, and what must hold all the same.
type hostile struct {
	*model
	m      *mem.Mem
	base   int
	broken bool
	out    map[int]sent
}

func (x *hostile) add() {
	k := 1 + x.r.Intn(x.n+1)
	l := chainOf(x.r, x.m.Size(), k)
	head, e := x.q.Add(l)
	want := api.OK
	switch {
	case x.broken:
		want = api.ErrState
	case k > x.free():
		want = api.ErrFull
	}
	if e != want || want != api.OK && head != 0 {
		x.t.Fatalf("Add of %d: %d, %d, not %d", k, head, e, want)
	}
	if e != api.OK {
		return
	}
	if _, there := x.out[head]; there || head < 0 || head >= x.n {
		x.t.Fatalf("Add: head %d", head)
	}
	x.out[head] = sent{head: head, l: l}
}

func (x *hostile) pop() {
	head, length, e := x.q.Pop()
	s, there := x.out[head]
	switch {
	case (e == api.ErrState) != x.broken:
		x.t.Fatalf("Pop: %d, broken %v", e, x.broken)
	case e == api.OK && (!there || length < 0 || length > s.room()):
		x.t.Fatalf("Pop: %d, %d of %v", head, length, s)
	case e == api.OK:
		delete(x.out, head)
	case head != 0 || length != 0 || e != api.ErrNone && e != api.ErrState && e != api.ErrForm:
		x.t.Fatalf("Pop: %d, %d, %d", head, length, e)
	}
	x.broken = x.broken || e == api.ErrForm
}

func (x *hostile) free() int {
	free := x.n
	for _, s := range x.out {
		free -= len(s.l)
	}
	return free
}

func (x *hostile) next() {
	head, l, e := x.d.Next()
	if e != api.OK && (head != 0 || len(l) != 0 || e != api.ErrNone && e != api.ErrForm) {
		x.t.Fatalf("Next: %d, %v, %d", head, l, e)
	}
	if e == api.OK && (head < 0 || head >= x.n || len(l) < 1 || len(l) > x.n) {
		x.t.Fatalf("Next: %d, %v", head, l)
	}
	for i, b := range l {
		if b.Len < 1 || b.At < 0 || b.At+b.Len > x.m.Size() || i > 0 && l[i-1].Write && !b.Write {
			x.t.Fatalf("Next: %v", l)
		}
	}
}

func (x *hostile) done() {
	length := uint32(x.r.Intn(3))
	if x.r.Intn(8) == 0 {
		length = x.r.Uint32()
	}
	wantDone(x.t, x.d, uint32(x.r.Intn(x.n+1)), length)
}

func (x *hostile) reset() {
	if x.r.Intn(4) > 0 {
		return
	}
	x.q.Reset()
	x.d = port(x.t, x.m, x.base, x.n)
	x.broken, x.out = false, map[int]sent{}
}

func TestWhateverADeviceWrites(t *testing.T) {
	for n, bytes := range sizes {
		r := rand.New(rand.NewSource(int64(100 + n)))
		m := filled(t, 2048)
		base := 16 * r.Intn((2048-bytes)/16)
		x := &hostile{model: &model{t: t, r: r, n: n}, m: m, base: base, out: map[int]sent{}}
		x.q, x.d = queue(t, m, base, n), port(t, m, base, n)
		acts := []func(){x.add, x.add, x.pop, x.pop, x.next, x.done, x.reset}
		for range 40000 {
			if r.Intn(3) == 0 {
				spoil(r, m, base, n)
			}
			old := all(t, m)
			acts[r.Intn(len(acts))]()
			wantState(t, x.q, x.free(), len(x.out), x.broken)
			if got := all(t, m); got[:base] != old[:base] || got[base+bytes:] != old[base+bytes:] {
				t.Fatal("bytes beside the queue's are changed")
			}
		}
	}
}

func TestQueuesAreApart(t *testing.T) {
	m := filled(t, 4096)
	a, b := queue(t, m, 0, 4), queue(t, m, 112, 4)
	c, d := port(t, m, 0, 4), port(t, m, 112, 4)
	wantAdd(t, a, 0, reads(3)...)
	wantNoNext(t, d, api.ErrNone)
	wantAdd(t, b, 0, write(512, 4))
	wantNext(t, d, 0, write(512, 4))
	wantNext(t, c, 0, reads(3)...)
	wantDone(t, d, 0, 9)
	wantNoPop(t, a, api.ErrNone)
	wantNoPop(t, b, api.ErrForm)
	wantState(t, a, 1, 1, false)
	b.Reset()
	wantDone(t, c, 0, 0)
	wantPop(t, a, 0, 0)
}
