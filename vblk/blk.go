package vblk

import (
	"cmp"
	"slices"

	"blockyard/api"
	"blockyard/mem"
	"blockyard/virtq"
)

// maxLimit is how long a driver waits at most, in ticks.
const maxLimit = 1 << 20

// sent is what the driver keeps of an order that is out, since the device may have changed what stands in memory.
type sent struct {
	id, kind, slot int
	since          int // the tick at which it was submitted
}

// Blk is a driver. Those that New makes can be used; all others are none.
type Blk struct {
	m                    *mem.Mem
	base, sectors, limit int
	queue                *virtq.Queue
	out                  map[int]sent // by the heads of their chains
	last, now            int          // the last order's number, and how many ticks went by
	dead                 bool
	// made is the Blk that New answered: a copy of the struct, that would share its orders, is told by it.
	made *Blk
}

// New is the driver of a disk of so many sectors, of which nothing is out, and that gives its device limit ticks for an order.
func New(m *mem.Mem, base, sectors, limit int) (*Blk, api.Errno) {
	fair := sectors >= 1 && sectors <= api.MaxSectors && limit >= 1 && limit <= maxLimit
	if e := refuse(m, base, fair); e != api.OK {
		return nil, e
	}
	m.Write(base, string(make([]byte, Size)))
	q, e := virtq.New(m, base, entries)
	if e != api.OK {
		return nil, e
	}
	b := &Blk{m: m, base: base, sectors: sectors, limit: limit, queue: q, out: map[int]sent{}}
	b.made = b
	return b, api.OK
}

// Submit gives the device an order, and answers its number.
func (b *Blk) Submit(o api.Order) (int, api.Errno) {
	if b.none() {
		return 0, api.ErrNil
	}
	if b.dead {
		return 0, api.ErrDead
	}
	s, ok := ofKind(o.Kind)
	if !ok {
		return 0, api.ErrKind
	}
	if !b.mayBe(o) {
		return 0, api.ErrArg
	}
	if len(b.out) >= api.MaxOrder {
		return 0, api.ErrFull
	}
	slot := b.freeSlot()
	b.lay(b.at(slot), s, o)
	head, e := b.queue.Add(s.chain(b.at(slot)))
	if e != api.OK {
		return 0, e
	}
	b.last++
	b.out[head] = sent{id: b.last, kind: o.Kind, slot: slot, since: b.now}
	return b.last, api.OK
}

// Poll is the answers since the last one: what the device told and, when it is dead, that all else has failed.
func (b *Blk) Poll() []api.Done {
	if b.none() {
		return nil
	}
	l := b.told()
	if b.dead {
		l = append(l, b.lost()...)
	}
	return l
}

// Tick lets time go on: an order that is out for too long is the device's death.
func (b *Blk) Tick() {
	if b.none() {
		return
	}
	b.now++
	for _, x := range b.out {
		b.dead = b.dead || b.now-x.since >= b.limit
	}
}

// Dead tells whether the device is dead.
func (b *Blk) Dead() bool {
	return !b.none() && b.dead
}

// Flight is how many orders are out.
func (b *Blk) Flight() int {
	if b.none() {
		return 0
	}
	return len(b.out)
}

func (b *Blk) none() bool {
	return b == nil || b.made != b
}

// mayBe tells whether an order of a known kind may be, of this disk.
func (b *Blk) mayBe(o api.Order) bool {
	sectors, bytes := b.sectors, 0
	switch o.Kind {
	case api.DiskFlush:
		sectors = 1
	case api.DiskWrite:
		bytes = api.Sector
	}
	return o.Sector >= 0 && o.Sector < sectors && len(o.Data) == bytes
}

// at is where a slot begins.
func (b *Blk) at(slot int) int {
	return b.base + slotsAt + slotSize*slot
}

// freeSlot is the first slot of which no order is out.
func (b *Blk) freeSlot() int {
	taken := [api.MaxOrder]bool{}
	for _, x := range b.out {
		taken[x.slot] = true
	}
	return slices.Index(taken[:], false)
}

// lay writes an order into the slot at at.
func (b *Blk) lay(at int, s shape, o api.Order) {
	b.m.Write(at, s.head(o))
	b.m.Write(at+dataAt, s.data(o))
	b.m.Put(at+statusAt, statusSize, statusWaiting)
}

// told is the answers of what has come back. What cannot come back is the device's death.
func (b *Blk) told() []api.Done {
	l := []api.Done{}
	for !b.dead {
		head, length, e := b.queue.Pop()
		switch e {
		case api.OK:
			l = append(l, b.answer(head, length))
		case api.ErrNone:
			return l
		default:
			b.dead = true
		}
	}
	return l
}

// answer is that of the order whose chain has come back with this head and length.
func (b *Blk) answer(head, length int) api.Done {
	x := b.out[head]
	delete(b.out, head)
	read := x.kind == api.DiskRead
	status, _ := b.m.Get(b.at(x.slot)+statusAt, statusSize)
	if status != statusOK || read && length != api.Sector+statusSize {
		return api.Done{Id: x.id}
	}
	d := api.Done{Id: x.id, OK: true}
	if read {
		d.Data, _ = b.m.Text(b.at(x.slot)+dataAt, api.Sector)
	}
	return d
}

// lost is the answers of all that is out, when the device is dead.
func (b *Blk) lost() []api.Done {
	l := []api.Done{}
	for _, x := range b.out {
		l = append(l, api.Done{Id: x.id})
	}
	clear(b.out)
	slices.SortFunc(l, func(x, y api.Done) int { return cmp.Compare(x.Id, y.Id) })
	return l
}
