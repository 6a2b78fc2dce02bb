package vnet

import (
	"blockyard/api"
	"blockyard/mem"
	"blockyard/virtq"
)

// Port is a device's side. Those that Open makes can be used; all others are none.
type Port struct {
	m           *mem.Mem
	comes, goes *virtq.Port
	// made is the Port that Open answered: a copy of the struct, that would share its queues, is told by it.
	made *Port
}

// Open is the device's side of the driver at base, whose bytes stay.
func Open(m *mem.Mem, base int) (*Port, api.Errno) {
	if e := refuse(m, base); e != api.OK {
		return nil, e
	}
	comes, e := virtq.Open(m, base, entries)
	if e != api.OK {
		return nil, e
	}
	goes, e := virtq.Open(m, base+goesAt, entries)
	if e != api.OK {
		return nil, e
	}
	p := &Port{m: m, comes: comes, goes: goes}
	p.made = p
	return p, api.OK
}

// Deliver lets a frame come, in the next buffer that waits for one.
func (p *Port) Deliver(frame string) api.Errno {
	if p.none() {
		return api.ErrNil
	}
	if len(frame) > api.MaxFrame {
		return api.ErrLong
	}
	head, l, e := p.comes.Next()
	switch {
	case e == api.ErrNone:
		return api.ErrFull
	case e != api.OK:
		return e
	case len(l) != 1 || !l[0].Write || l[0].Len != longest:
		return api.ErrForm
	}
	text := noughts(headSize) + frame
	p.m.Write(l[0].At, text)
	return p.comes.Done(uint32(head), uint32(len(text)))
}

// Sent is the frames that went since the last one.
func (p *Port) Sent() []string {
	if p.none() {
		return nil
	}
	l := []string{}
	for {
		head, bufs, e := p.goes.Next()
		if e != api.OK {
			return l
		}
		if frame, ok := p.frame(bufs); ok {
			l = append(l, frame)
		}
		p.goes.Done(uint32(head), 0)
	}
}

func (p *Port) none() bool {
	return p == nil || p.made != p
}

// frame is what a chain brings, if it is one buffer with a head.
func (p *Port) frame(l []api.Buf) (string, bool) {
	if len(l) != 1 || l[0].Write || l[0].Len < headSize {
		return "", false
	}
	s, e := p.m.Text(l[0].At+headSize, l[0].Len-headSize)
	return s, e == api.OK
}
