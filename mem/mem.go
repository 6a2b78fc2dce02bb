// Package mem is layer 1: a guest's memory, of which nothing beyond its ends is ever touched, and numbers as bytes. See shared/doc/01-mem.md.
package mem

import "blockyard/api"

// Mem is a guest's memory. Those that New makes can be used; all others are none.
type Mem struct {
	bytes []byte
	// made is the Mem that New answered: a copy of the struct, that would share its bytes, is told by it.
	made *Mem
}

// New is a memory of size bytes, all noughts.
func New(size int) (*Mem, api.Errno) {
	if size < 1 || size > api.MaxMem {
		return nil, api.ErrArg
	}
	m := &Mem{bytes: make([]byte, size)}
	m.made = m
	return m, api.OK
}

// Size is how many bytes there are.
func (m *Mem) Size() int {
	if m.none() {
		return 0
	}
	return len(m.bytes)
}

// Get is the number that the n bytes from at on are, little.
func (m *Mem) Get(at, n int) (uint64, api.Errno) {
	if e := m.number(at, n); e != api.OK {
		return 0, e
	}
	return get(m.bytes[at : at+n]), api.OK
}

// Put makes the n bytes from at on x modulo 256^n, little.
func (m *Mem) Put(at, n int, x uint64) api.Errno {
	if e := m.number(at, n); e != api.OK {
		return e
	}
	put(m.bytes[at:at+n], x)
	return api.OK
}

// Text is the n bytes from at on.
func (m *Mem) Text(at, n int) (string, api.Errno) {
	if e := m.bytesAt(at, n); e != api.OK {
		return "", e
	}
	return string(m.bytes[at : at+n]), api.OK
}

// Write makes the bytes from at on s.
func (m *Mem) Write(at int, s string) api.Errno {
	if e := m.bytesAt(at, len(s)); e != api.OK {
		return e
	}
	copy(m.bytes[at:], s)
	return api.OK
}

func (m *Mem) none() bool {
	return m == nil || m.made != m
}

// number is why no number of n bytes is at at, if so.
func (m *Mem) number(at, n int) api.Errno {
	if m.none() {
		return api.ErrNil
	}
	if !mayHave(n) {
		return api.ErrArg
	}
	return m.bytesAt(at, n)
}

// bytesAt is why no n bytes are at at, if so.
func (m *Mem) bytesAt(at, n int) api.Errno {
	if m.none() {
		return api.ErrNil
	}
	if !inside(len(m.bytes), at, n) {
		return api.ErrRange
	}
	return api.OK
}

// inside tells whether n bytes from at on are among size ones. It takes n from size, since at and n together may be more than an int holds.
func inside(size, at, n int) bool {
	return at >= 0 && n >= 0 && at <= size-n
}
