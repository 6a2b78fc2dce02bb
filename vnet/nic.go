package vnet

import (
	"blockyard/api"
	"blockyard/mem"
	"blockyard/virtq"
)

// Nic is a driver. Those that New makes can be used; all others are none.
type Nic struct {
	m             *mem.Mem
	base          int
	comes, goes   *virtq.Queue
	free          *Pool[int]   // the buffers for what goes that are not out
	out           [entries]int // those that are out, by the heads of their chains
	drops, resets int
	// made is the Nic that New answered: a copy of the struct, that would share its queues, is told by it.
	made *Nic
}

// New is a driver at base, all of whose buffers for what comes are offered.
func New(m *mem.Mem, base int) (*Nic, api.Errno) {
	if e := refuse(m, base); e != api.OK {
		return nil, e
	}
	m.Write(base, noughts(Size))
	comes, e := virtq.New(m, base, entries)
	if e != api.OK {
		return nil, e
	}
	goes, e := virtq.New(m, base+goesAt, entries)
	if e != api.OK {
		return nil, e
	}
	n := &Nic{m: m, base: base, comes: comes, goes: goes, free: allFree()}
	n.made = n
	n.offerAll()
	return n, api.OK
}

// Receive is the frames that have come since the last one.
func (n *Nic) Receive() []string {
	if n.none() {
		return nil
	}
	l := []string{}
	for {
		i, length, e := n.comes.Pop()
		switch e {
		case api.OK:
			if frame, ok := n.frame(i, length); ok {
				l = append(l, frame)
			} else {
				n.drops++
			}
			n.offer(i)
		case api.ErrNone:
			return l
		default:
			n.reset(n.comes)
			n.offerAll()
			n.drops++
			return l
		}
	}
}

// Send lets a frame go.
func (n *Nic) Send(frame string) api.Errno {
	if n.none() {
		return api.ErrNil
	}
	if e := fits(len(frame)); e != api.OK {
		return e
	}
	n.regain()
	i, ok := n.free.Take()
	if !ok {
		return api.ErrFull
	}
	at, text := n.bufferAt(entries+i), noughts(headSize)+frame
	n.m.Write(at, text)
	head, e := n.goes.Add([]api.Buf{{At: at, Len: len(text)}})
	n.out[head] = i
	return e
}

// Drops is how many of those that came were dropped.
func (n *Nic) Drops() int {
	if n.none() {
		return 0
	}
	return n.drops
}

// Resets is how often a queue was reset.
func (n *Nic) Resets() int {
	if n.none() {
		return 0
	}
	return n.resets
}

func (n *Nic) none() bool {
	return n == nil || n.made != n
}

// bufferAt is where a buffer begins; those for what goes are behind those for what comes.
func (n *Nic) bufferAt(i int) int {
	return n.base + buffersAt + bufSize*i
}

// frame is what came in a buffer, of which length bytes were written, if it may go.
func (n *Nic) frame(i, length int) (string, bool) {
	at := n.bufferAt(i)
	if many, _ := n.m.Get(at+manyAt, 1); many != 0 || fits(length-headSize) != api.OK {
		return "", false
	}
	s, e := n.m.Text(at+headSize, length-headSize)
	return s, e == api.OK
}

// offer offers a buffer for what comes. All those with a lesser number are out when it does, so that the chain's head is the buffer's number.
func (n *Nic) offer(i int) {
	n.comes.Add([]api.Buf{{At: n.bufferAt(i), Len: longest, Write: true}})
}

func (n *Nic) offerAll() {
	for i := range entries {
		n.offer(i)
	}
}

// allFree is a pool of all buffers for what goes.
func allFree() *Pool[int] {
	l := []int{}
	for i := range entries {
		l = append(l, i)
	}
	return NewPool(l)
}

// regain frees the buffers of what has gone.
func (n *Nic) regain() {
	for {
		head, _, e := n.goes.Pop()
		switch e {
		case api.OK:
			n.free.Give(n.out[head])
		case api.ErrNone:
			return
		default:
			n.reset(n.goes)
			n.free = allFree()
			return
		}
	}
}

// reset lets a queue begin anew into which the device wrote what cannot be.
func (n *Nic) reset(q *virtq.Queue) {
	q.Reset()
	n.resets++
}
