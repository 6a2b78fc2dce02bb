package vblk_test

import (
	"math/rand"
	"slices"
	"testing"

	"blockyard/api"
	"blockyard/mem"
	"blockyard/vblk"
)

// P3.6

// anyOrder is an order of a disk of so many sectors, that may be.
func anyOrder(r *rand.Rand, sectors int) api.Order {
	o := api.Order{Kind: 1 + r.Intn(5)}
	if o.Kind != api.DiskFlush {
		o.Sector = r.Intn(sectors)
	}
	if o.Kind == api.DiskWrite {
		o.Data = sectorOf(r.Intn(256))
	}
	return o
}

// held is an order on its way, and what comes of it.
type held struct {
	head int
	o    api.Order
	done api.Done
}

// model is a driver, a device as it should be, and the orders on their way, by how far they are.
type model struct {
	t                    *testing.T
	r                    *rand.Rand
	b                    *vblk.Blk
	p                    *vblk.Port
	last                 int
	offered, taken, told []held
}

func (x *model) out() int {
	return len(x.offered) + len(x.taken) + len(x.told)
}

func (x *model) submit() {
	o := anyOrder(x.r, 8)
	if x.out() == 8 {
		wantNoSubmit(x.t, x.b, api.ErrFull, o)
		return
	}
	x.last++
	wantSubmit(x.t, x.b, x.last, o)
	x.offered = append(x.offered, held{o: o, done: bad(x.last)})
}

func (x *model) next() {
	if len(x.offered) == 0 {
		wantNoNext(x.t, x.p, api.ErrNone)
		return
	}
	y := x.offered[0]
	head, o, e := x.p.Next()
	if e != api.OK || o != y.o {
		x.t.Fatalf("Next: %v, %d, not %v", o, e, y.o)
	}
	for _, z := range x.taken {
		if z.head == head {
			x.t.Fatalf("the head %d is told twice", head)
		}
	}
	y.head = head
	x.offered, x.taken = x.offered[1:], append(x.taken, y)
}

func (x *model) done() {
	if len(x.taken) == 0 {
		return
	}
	i := x.r.Intn(len(x.taken))
	y := x.taken[i]
	y.done.OK = x.r.Intn(4) > 0
	if y.done.OK && y.o.Kind == api.DiskRead {
		y.done.Data = sectorOf(x.r.Intn(256))
	}
	wantDone(x.t, x.p, api.OK, y.head, y.done.OK, y.done.Data)
	x.taken = slices.Delete(x.taken, i, i+1)
	x.told = append(x.told, y)
}

func (x *model) poll() {
	want := []api.Done{}
	for _, y := range x.told {
		want = append(want, y.done)
	}
	x.told = nil
	wantPoll(x.t, x.b, want...)
}

func TestEachIsAnsweredOnceByWhatWasTold(t *testing.T) {
	for base := 0; base < 64; base += 16 {
		_, b, p := pair(t, base, 8, 1<<20)
		x := &model{t: t, r: rand.New(rand.NewSource(int64(base))), b: b, p: p}
		acts := []func(){x.submit, x.submit, x.next, x.next, x.done, x.done, x.poll, b.Tick}
		for range 40000 {
			acts[x.r.Intn(len(acts))]()
			wantState(t, b, false, x.out())
		}
		for x.out() > 0 {
			x.next()
			x.done()
			x.poll()
		}
		wantState(t, b, false, 0)
		wantNoNext(t, p, api.ErrNone)
	}
}

func TestADeathAnywhere(t *testing.T) {
	for seed := range int64(300) {
		_, b, p := pair(t, 0, 8, 5)
		x := &model{t: t, r: rand.New(rand.NewSource(seed)), b: b, p: p}
		acts := []func(){x.submit, x.next, x.done, x.poll}
		for range 40 {
			acts[x.r.Intn(len(acts))]()
		}
		x.submit()
		ids := []int{}
		for _, y := range slices.Concat(x.offered, x.taken, x.told) {
			ids = append(ids, y.done.Id)
		}
		slices.Sort(ids)
		ticks(b, 4)
		wantState(t, b, false, len(ids))
		b.Tick()
		wantState(t, b, true, len(ids))
		wantPoll(t, b, bads(ids...)...)
		wantState(t, b, true, 0)
		wantPoll(t, b)
	}
}

// spoil writes something into the driver's bytes, as a device might: numbers that are near to what is right, mostly.
func spoil(r *rand.Rand, m *mem.Mem, base int) {
	near := uint64(r.Intn(27))
	switch r.Intn(8) {
	case 0:
		m.Put(base+usedAt+2, 2, near)
	case 1:
		m.Put(base+usedAt+4+8*r.Intn(32), 4, near)
	case 2:
		m.Put(base+usedAt+8+8*r.Intn(32), 4, uint64(r.Intn(67)))
	case 3:
		m.Put(base+slotsAt+slotSize*r.Intn(8)+80, 1, uint64(r.Intn(3)))
	case 4:
		m.Put(base+slotsAt+slotSize*r.Intn(8), 4, near)
	case 5:
		m.Put(base+slotsAt+r.Intn(slotSize*8-8), 1+r.Intn(8), r.Uint64())
	case 6:
		m.Put(base+r.Intn(usedAt-8), 1+r.Intn(4), near)
	default:
		m.Put(base+r.Intn(vblk.Size-7), 1+r.Intn(8), r.Uint64())
	}
}

// hostile is a driver, a device that writes anything, and what must hold all the same.
type hostile struct {
	t     *testing.T
	r     *rand.Rand
	m     *mem.Mem
	base  int
	b     *vblk.Blk
	p     *vblk.Port
	last  int
	kinds map[int]int // of the orders that are out, by their numbers
}

// quiet does something that must not touch bytes beside the driver's.
func (x *hostile) quiet(act func()) {
	old := all(x.t, x.m)
	act()
	if got := all(x.t, x.m); got[:x.base] != old[:x.base] || got[x.base+vblk.Size:] != old[x.base+vblk.Size:] {
		x.t.Fatal("bytes beside the driver's are changed")
	}
}

func (x *hostile) submit() {
	o := anyOrder(x.r, 8)
	if x.b.Dead() {
		wantNoSubmit(x.t, x.b, api.ErrDead, o)
		return
	}
	if len(x.kinds) == 8 {
		wantNoSubmit(x.t, x.b, api.ErrFull, o)
		return
	}
	x.last++
	wantSubmit(x.t, x.b, x.last, o)
	x.kinds[x.last] = o.Kind
}

func (x *hostile) poll() {
	for _, d := range x.b.Poll() {
		kind, there := x.kinds[d.Id]
		if !there {
			x.t.Fatalf("an answer of %d, which is not out", d.Id)
		}
		if (len(d.Data) == 64) != (d.OK && kind == api.DiskRead) || len(d.Data) != 64 && d.Data != "" {
			x.t.Fatalf("of the kind %d: %v", kind, d)
		}
		delete(x.kinds, d.Id)
	}
	if x.b.Dead() && len(x.kinds) > 0 {
		x.t.Fatalf("dead, and %d are not answered", len(x.kinds))
	}
}

// serve takes what is there to take, and answers it, or something else.
func (x *hostile) serve() {
	head, o, e := x.p.Next()
	switch {
	case e != api.OK && (head != 0 || o != (api.Order{}) || e != api.ErrNone && e != api.ErrForm):
		x.t.Fatalf("Next: %d, %v, %d", head, o, e)
	case e == api.OK && (head < 0 || head > 31 || o.Kind < 1 || o.Kind > 5 || o.Sector < 0 || (len(o.Data) == 64) != (o.Kind == api.DiskWrite)):
		x.t.Fatalf("Next: %d, %v", head, o)
	}
	if x.r.Intn(4) == 0 {
		head = x.r.Intn(34) - 1
	}
	ok, data := x.r.Intn(2) == 0, ""
	if ok && o.Kind == api.DiskRead {
		data = full(3)
	}
	if f := x.p.Done(head, ok, data); f != api.OK && f != api.ErrNone && f != api.ErrArg {
		x.t.Fatalf("Done: %d", f)
	}
}

func (x *hostile) spoil() { spoil(x.r, x.m, x.base) }

func TestWhateverADeviceWrites(t *testing.T) {
	died := 0
	for seed := range int64(400) {
		m := filled(t, 2048)
		x := &hostile{t: t, r: rand.New(rand.NewSource(seed)), m: m, base: 16 * int(seed%27), kinds: map[int]int{}}
		x.b, x.p = driver(t, m, x.base, 8, 40), port(t, m, x.base)
		for range 150 {
			switch x.r.Intn(16) {
			case 0:
				x.spoil()
			case 1:
				x.quiet(x.b.Tick)
			case 2, 3, 4, 5, 6:
				x.quiet(x.submit)
			case 7, 8, 9, 10, 11:
				x.serve()
			default:
				x.quiet(x.poll)
			}
			if x.b.Flight() != len(x.kinds) {
				t.Fatalf("Flight %d, not %d", x.b.Flight(), len(x.kinds))
			}
		}
		if x.b.Dead() {
			died++
		}
		ticks(x.b, 40)
		x.poll()
		wantState(t, x.b, x.b.Dead(), 0)
	}
	if died == 0 || died == 400 {
		t.Errorf("%d of 400 died: the test shows one half alone", died)
	}
}

func TestRandomBytesFromADevice(t *testing.T) {
	r := rand.New(rand.NewSource(1))
	for range 2000 {
		m, b, p := pair(t, 0, 8, 3)
		n := r.Intn(9)
		for i := range n {
			wantSubmit(t, b, i+1, anyOrder(r, 8))
		}
		s := make([]byte, r.Intn(1616))
		r.Read(s)
		m.Write(r.Intn(1616-len(s)+1), string(s))
		for range 40 {
			if head, _, e := p.Next(); e == api.OK {
				p.Done(head, r.Intn(2) == 0, "")
			}
		}
		ids := map[int]int{}
		l := b.Poll()
		ticks(b, 3)
		for _, d := range append(l, b.Poll()...) {
			ids[d.Id]++
		}
		for i := range n {
			if ids[i+1] != 1 {
				t.Fatalf("%d is answered %d times", i+1, ids[i+1])
			}
		}
		if len(ids) != n {
			t.Fatalf("of %d orders: %v", n, ids)
		}
	}
}

func TestDriversAreApart(t *testing.T) {
	m := filled(t, 4096)
	a, b := driver(t, m, 0, 8, 3), driver(t, m, 1616, 8, 3)
	c, d := port(t, m, 0), port(t, m, 1616)
	wantSubmit(t, a, 1, read(1))
	wantNoNext(t, d, api.ErrNone)
	wantSubmit(t, b, 1, write(2, full(4)))
	wantNext(t, c, 0, read(1))
	wantNext(t, d, 0, write(2, full(4)))
	wantDone(t, d, api.OK, 0, true, "")
	wantPoll(t, a)
	ticks(a, 3)
	wantState(t, a, true, 1)
	wantState(t, b, false, 1)
	wantPoll(t, b, good(1))
	wantPoll(t, a, bad(1))
	wantSubmit(t, b, 2, flush)
}
