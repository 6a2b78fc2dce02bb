package vblk

import (
	"math"
	"slices"

	"blockyard/api"
	"blockyard/mem"
	"blockyard/virtq"
)

// taken is what the device keeps of an order that it has not answered, since the driver may have changed what stands in memory.
type taken struct {
	read         bool
	data, status int // where they are to be written
}

// Port is a device's side. Those that Open makes can be used; all others are none.
type Port struct {
	m     *mem.Mem
	queue *virtq.Port
	taken map[int]taken // by the heads of their chains
	// made is the Port that Open answered: a copy of the struct, that would share its orders, is told by it.
	made *Port
}

// Open is the device's side of the driver at base, whose bytes stay.
func Open(m *mem.Mem, base int) (*Port, api.Errno) {
	if e := refuse(m, base, true); e != api.OK {
		return nil, e
	}
	q, e := virtq.Open(m, base, entries)
	if e != api.OK {
		return nil, e
	}
	p := &Port{m: m, queue: q, taken: map[int]taken{}}
	p.made = p
	return p, api.OK
}

// Next takes the next order: its chain's head, and what it asks.
func (p *Port) Next() (int, api.Order, api.Errno) {
	if p.none() {
		return 0, api.Order{}, api.ErrNil
	}
	head, l, e := p.queue.Next()
	if e != api.OK {
		return 0, api.Order{}, e
	}
	o, ok := p.order(l)
	if !ok {
		return 0, api.Order{}, api.ErrForm
	}
	p.taken[head] = taken{read: o.Kind == api.DiskRead, data: l[1].At, status: l[len(l)-1].At}
	return head, o, api.OK
}

// Done answers an order that was taken.
func (p *Port) Done(head int, ok bool, data string) api.Errno {
	if p.none() {
		return api.ErrNil
	}
	x, there := p.taken[head]
	if !there {
		return api.ErrNone
	}
	if !x.mayAnswer(ok, data) {
		return api.ErrArg
	}
	delete(p.taken, head)
	status := uint64(statusFailed)
	if ok {
		status = statusOK
	}
	p.m.Write(x.data, data)
	p.m.Put(x.status, statusSize, status)
	return p.queue.Done(uint32(head), uint32(len(data)+statusSize))
}

func (p *Port) none() bool {
	return p == nil || p.made != p
}

// mayAnswer tells whether an answer has the data that it must have.
func (x taken) mayAnswer(ok bool, data string) bool {
	if x.read && ok {
		return len(data) == api.Sector
	}
	return data == ""
}

// text is what stands in a buffer of a chain, which lies in the memory.
func (p *Port) text(b api.Buf) string {
	s, _ := p.m.Text(b.At, b.Len)
	return s
}

// order is what a chain asks, if it is one that a driver makes, wherever it lies. It is held against the one that a driver would make of that order.
func (p *Port) order(l []api.Buf) (api.Order, bool) {
	head := p.text(l[0])
	number, _ := mem.ReadLittle(head, 0, typeSize) // a head too short to have one is refused for its length
	s, known := ofType(number)
	if !known || !slices.EqualFunc(l, s.chain(0), sameShape) {
		return api.Order{}, false
	}
	data := ""
	if s.length > 0 && !s.back {
		data = p.text(l[1])
	}
	sector, ok := s.sectorOf(head, data)
	if !ok {
		return api.Order{}, false
	}
	o := api.Order{Kind: s.kind, Sector: sector}
	if s.kind == api.DiskWrite {
		o.Data = data
	}
	return o, head == s.head(o) && data == s.data(o)
}

// sameShape tells whether two buffers are alike but for where they lie.
func sameShape(x, y api.Buf) bool {
	return x.Len == y.Len && x.Write == y.Write
}

// sectorOf is the sector that a head and data tell. One that an int doesn't hold is none that an order could have.
func (s shape) sectorOf(head, data string) (int, bool) {
	x := uint64(0)
	switch s.sector {
	case inHead:
		x, _ = mem.ReadLittle(head, headSector, sectorSize)
	case inData:
		x, _ = mem.ReadLittle(data, dataSector, sectorSize)
	}
	if x > math.MaxInt {
		return 0, false
	}
	return int(x), true
}
