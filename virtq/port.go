package virtq

import (
	"blockyard/api"
	"blockyard/mem"
)

// Port is a device's side. Those that Open makes can be used; all others are none.
type Port struct {
	area
	taken, told uint16
	// made is the Port that Open answered: a copy of the struct, that would count apart from it, is told by it.
	made *Port
}

// Open is the port of a queue of n entries at base, whose bytes stay.
func Open(m *mem.Mem, base, n int) (*Port, api.Errno) {
	a, e := find(m, base, n)
	if e != api.OK {
		return nil, e
	}
	p := &Port{area: a}
	p.made = p
	return p, api.OK
}

// Next takes the next chain that is offered: its head, and its buffers.
func (p *Port) Next() (head int, l []api.Buf, e api.Errno) {
	if p.none() {
		return 0, nil, api.ErrNil
	}
	ahead := int(p.offeredIndex() - p.taken)
	if ahead == 0 {
		return 0, nil, api.ErrNone
	}
	head = int(p.get(p.offeredAt(p.taken), offeredSize))
	l, ok := p.follow(head)
	if ahead > p.n || !ok {
		return 0, nil, api.ErrForm
	}
	p.taken++
	return head, l, api.OK
}

// Done tells that a chain is used, and that so many bytes were written.
func (p *Port) Done(head, length uint32) api.Errno {
	if p.none() {
		return api.ErrNil
	}
	at := p.usedAt(p.told)
	p.m.Put(at, 4, uint64(head))
	p.m.Put(at+4, 4, uint64(length))
	p.told++
	p.putUsedIndex(p.told)
	return api.OK
}

func (p *Port) none() bool {
	return p == nil || p.made != p
}

// follow is the buffers of the chain that begins with descriptor i, if it is one. It goes through n descriptors at most: a chain that leads back into itself has more.
func (p *Port) follow(i int) ([]api.Buf, bool) {
	l := []api.Buf{}
	for range p.n {
		if i >= p.n {
			return nil, false
		}
		d := p.descriptor(i)
		b, ok := p.buf(d)
		if !ok {
			return nil, false
		}
		l = append(l, b)
		if d.flags&follows == 0 {
			return l, inOrder(l)
		}
		i = int(d.next)
	}
	return nil, false
}
