package virtq

import (
	"blockyard/api"
	"blockyard/mem"
)

// chain is what the driver keeps of one that is out, since the device may have changed what stands in memory.
type chain struct {
	numbers []int
	room    int // how many bytes the device may write
}

// Queue is a driver's side. Those that New makes can be used; all others are none.
type Queue struct {
	area
	out           map[int]chain
	offered, back uint16
	broken        bool
	// made is the Queue that New answered: a copy of the struct, that would share its chains, is told by it.
	made *Queue
}

// New is a queue of n entries at base, of which nothing is out.
func New(m *mem.Mem, base, n int) (*Queue, api.Errno) {
	a, e := find(m, base, n)
	if e != api.OK {
		return nil, e
	}
	q := &Queue{area: a}
	q.made = q
	q.Reset()
	return q, api.OK
}

// Add offers a chain of these buffers, and answers its head.
func (q *Queue) Add(l []api.Buf) (int, api.Errno) {
	if e := q.closed(); e != api.OK {
		return 0, e
	}
	if e := q.refuse(l); e != api.OK {
		return 0, e
	}
	numbers := q.unused()[:len(l)]
	q.describe(numbers, l)
	head := numbers[0]
	q.out[head] = chain{numbers: numbers, room: room(l)}
	q.m.Put(q.offeredAt(q.offered), offeredSize, uint64(head))
	q.offered++
	q.putOfferedIndex(q.offered)
	return head, api.OK
}

// Pop is the head of the next chain that is back, and how many bytes the device says that it wrote.
func (q *Queue) Pop() (head, length int, e api.Errno) {
	if e := q.closed(); e != api.OK {
		return 0, 0, e
	}
	ahead := int(q.usedIndex() - q.back)
	if ahead == 0 {
		return 0, 0, api.ErrNone
	}
	at := q.usedAt(q.back)
	number, wrote := q.get(at, 4), q.get(at+4, 4)
	c, ok := q.out[int(number)]
	if ahead > len(q.out) || !ok || wrote > uint64(c.room) {
		q.broken = true
		return 0, 0, api.ErrForm
	}
	delete(q.out, int(number))
	q.back++
	return int(number), int(wrote), api.OK
}

// Free is how many descriptors are free.
func (q *Queue) Free() int {
	if q.none() {
		return 0
	}
	return len(q.unused())
}

// Out is how many chains are out.
func (q *Queue) Out() int {
	if q.none() {
		return 0
	}
	return len(q.out)
}

// Broken tells whether the device wrote what cannot be.
func (q *Queue) Broken() bool {
	return !q.none() && q.broken
}

// Reset makes all as behind New.
func (q *Queue) Reset() {
	if q.none() {
		return
	}
	q.wipe()
	*q = Queue{area: q.area, out: map[int]chain{}, made: q}
}

func (q *Queue) none() bool {
	return q == nil || q.made != q
}

// closed is why nothing goes in and out, if so.
func (q *Queue) closed() api.Errno {
	if q.none() {
		return api.ErrNil
	}
	if q.broken {
		return api.ErrState
	}
	return api.OK
}

// refuse is why the chain of l may not be offered, if so.
func (q *Queue) refuse(l []api.Buf) api.Errno {
	if !inOrder(l) {
		return api.ErrArg
	}
	for _, b := range l {
		if !inside(q.m.Size(), b.At, b.Len) {
			return api.ErrRange
		}
	}
	if len(l) > q.Free() {
		return api.ErrFull
	}
	return api.OK
}

// inOrder tells whether l has buffers, all with bytes, and those to be read ahead of those to be written.
func inOrder(l []api.Buf) bool {
	write := false
	for _, b := range l {
		if b.Len < 1 || write && !b.Write {
			return false
		}
		write = b.Write
	}
	return len(l) > 0
}

// room is how many bytes of l the device may write.
func room(l []api.Buf) int {
	n := 0
	for _, b := range l {
		if b.Write {
			n += b.Len
		}
	}
	return n
}

// unused is the numbers of the free descriptors, the least first.
func (q *Queue) unused() []int {
	taken := [api.MaxQueue]bool{}
	for _, c := range q.out {
		for _, i := range c.numbers {
			taken[i] = true
		}
	}
	numbers := []int{}
	for i := range q.n {
		if !taken[i] {
			numbers = append(numbers, i)
		}
	}
	return numbers
}

// describe writes the descriptors of l, each linked with the one behind it.
func (q *Queue) describe(numbers []int, l []api.Buf) {
	for i, b := range l {
		d := descriptor{at: uint64(b.At), length: uint64(b.Len)}
		if b.Write {
			d.flags |= writable
		}
		if i+1 < len(l) {
			d.flags |= follows
			d.next = uint64(numbers[i+1])
		}
		q.putDescriptor(numbers[i], d)
	}
}
