package vnet

// Pool is things that are free. Those that NewPool makes can be used; all others are none.
type Pool[T any] struct {
	// free has pointers, since a channel takes no things of over 64 KiB.
	free chan *T
	// made is the Pool that NewPool answered: a copy of the struct, that would share its things, is told by it.
	made *Pool[T]
}

// NewPool is a pool that has the things of l, and room for as many.
func NewPool[T any](l []T) *Pool[T] {
	p := &Pool[T]{free: make(chan *T, len(l))}
	p.made = p
	for _, x := range l {
		p.Give(x)
	}
	return p
}

// Take takes the thing that was given first.
func (p *Pool[T]) Take() (x T, ok bool) {
	if p.none() {
		return x, false
	}
	select {
	case first := <-p.free:
		return *first, true
	default:
		return x, false
	}
}

// Give puts x into the pool, if there is room.
func (p *Pool[T]) Give(x T) bool {
	if p.none() {
		return false
	}
	select {
	case p.free <- &x:
		return true
	default:
		return false
	}
}

// Len is how many things there are.
func (p *Pool[T]) Len() int {
	if p.none() {
		return 0
	}
	return len(p.free)
}

func (p *Pool[T]) none() bool {
	return p == nil || p.made != p
}
