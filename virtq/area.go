package virtq

import (
	"blockyard/api"
	"blockyard/mem"
)

// How a queue lies in memory.
const (
	baseStep       = 16
	descriptorSize = 16
	ringHead       = 4 // flags, and the index, ahead of a ring's entries
	indexAt        = 2
	offeredSize    = 2
	usedSize       = 8
	usedStep       = 4
)

// The flags of descriptors.
const (
	follows  = 1
	writable = 2
)

// Bytes is how many bytes a queue of n entries has; 0, if there is none such.
func Bytes(n int) int {
	if !mayHave(n) {
		return 0
	}
	return usedFrom(n) + ringHead + usedSize*n
}

// mayHave tells whether a queue may have n entries.
func mayHave(n int) bool {
	return n >= 1 && n <= api.MaxQueue && n&(n-1) == 0
}

// offeredFrom is how far behind the base what is offered begins.
func offeredFrom(n int) int {
	return descriptorSize * n
}

// usedFrom is how far behind the base what is used begins.
func usedFrom(n int) int {
	end := offeredFrom(n) + ringHead + offeredSize*n
	return (end + usedStep - 1) / usedStep * usedStep
}

// area is where a queue lies in a memory. It lies there whole, so that what it gets and puts of its own can't go wrong.
type area struct {
	m       *mem.Mem
	base, n int
}

// find is the area of a queue of n entries at base, or why there is none.
func find(m *mem.Mem, base, n int) (area, api.Errno) {
	if m.Size() == 0 {
		return area{}, api.ErrNil
	}
	if !mayHave(n) || base < 0 || base%baseStep != 0 {
		return area{}, api.ErrArg
	}
	if !inside(m.Size(), base, Bytes(n)) {
		return area{}, api.ErrRange
	}
	return area{m: m, base: base, n: n}, api.OK
}

// inside tells whether n bytes from at on are among size ones. It takes n from size, since at and n together may be more than an int holds.
func inside(size, at, n int) bool {
	return at >= 0 && at <= size-n
}

func (a area) get(at, n int) uint64 {
	x, _ := a.m.Get(at, n)
	return x
}

// wipe makes all of its bytes noughts.
func (a area) wipe() {
	a.m.Write(a.base, string(make([]byte, Bytes(a.n))))
}

func (a area) offeredIndex() uint16 {
	return uint16(a.get(a.base+offeredFrom(a.n)+indexAt, 2))
}

func (a area) usedIndex() uint16 {
	return uint16(a.get(a.base+usedFrom(a.n)+indexAt, 2))
}

func (a area) putOfferedIndex(x uint16) {
	a.m.Put(a.base+offeredFrom(a.n)+indexAt, 2, uint64(x))
}

func (a area) putUsedIndex(x uint16) {
	a.m.Put(a.base+usedFrom(a.n)+indexAt, 2, uint64(x))
}

// offeredAt is where the number of a chain stands that is offered as number i.
func (a area) offeredAt(i uint16) int {
	return a.base + offeredFrom(a.n) + ringHead + offeredSize*(int(i)%a.n)
}

// usedAt is where the entry of a chain stands that is used as number i.
func (a area) usedAt(i uint16) int {
	return a.base + usedFrom(a.n) + ringHead + usedSize*(int(i)%a.n)
}

// descriptor is what stands in memory of a buffer, whether it makes sense or not.
type descriptor struct {
	at, length, flags, next uint64
}

func (a area) descriptor(i int) descriptor {
	at := a.base + descriptorSize*i
	return descriptor{at: a.get(at, 8), length: a.get(at+8, 4), flags: a.get(at+12, 2), next: a.get(at+14, 2)}
}

func (a area) putDescriptor(i int, d descriptor) {
	at := a.base + descriptorSize*i
	a.m.Put(at, 8, d.at)
	a.m.Put(at+8, 4, d.length)
	a.m.Put(at+12, 2, d.flags)
	a.m.Put(at+14, 2, d.next)
}

// buf is the buffer that d tells of, if it lies in the memory.
func (a area) buf(d descriptor) (api.Buf, bool) {
	size := uint64(a.m.Size())
	if d.length > size || d.at > size-d.length {
		return api.Buf{}, false
	}
	return api.Buf{At: int(d.at), Len: int(d.length), Write: d.flags&writable != 0}, true
}
