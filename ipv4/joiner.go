package ipv4

import (
	"slices"

	"blockyard/api"
)

const maxLimit = 1 << 20

// name is what all pieces of one datagram have alike.
type name struct {
	from, to  api.IP
	proto, id int
}

// piece is what a packet tells of its datagram's Data. Two that are equal tell the same.
type piece struct {
	at   int
	data string
	more bool
}

func (x piece) end() int {
	return x.at + len(x.data)
}

// isAbove tells whether x reaches above the end that y gives, if y gives one.
func (x piece) isAbove(y piece) bool {
	return !y.more && x.end() > y.end()
}

// clashes tells whether x and y can't be of one datagram: no byte is in both, and just one tells the end, above which there is nothing.
func (x piece) clashes(y piece) bool {
	share := max(x.at, y.at) < min(x.end(), y.end())
	return share || !x.more && !y.more || x.isAbove(y) || y.isAbove(x)
}

// datagram is one of which not all bytes are there.
type datagram struct {
	name   name
	age    int
	ttl    int // that of the piece at 0, when it is there
	pieces []piece
}

// mayHave tells whether x can be one piece more.
func (d *datagram) mayHave(x piece) bool {
	return x.end() <= api.MaxIP && !slices.ContainsFunc(d.pieces, x.clashes)
}

// isWhole tells whether all bytes are there. Since no byte is there twice, and none above the end, they are counted.
func (d *datagram) isWhole() bool {
	n, end := 0, -1
	for _, x := range d.pieces {
		n += len(x.data)
		if !x.more {
			end = x.end()
		}
	}
	return n == end
}

// packet is d as a whole, if all bytes are there.
func (d *datagram) packet() api.Packet {
	data := make([]byte, api.MaxIP)
	n := 0
	for _, x := range d.pieces {
		n += copy(data[x.at:], x.data)
	}
	return api.Packet{Id: d.name.id, From: d.name.from, To: d.name.to, Proto: d.name.proto, Ttl: d.ttl, Data: string(data[:n])}
}

// Joiner joins pieces. Those that New makes can be used; all others are none.
type Joiner struct {
	limit     int
	datagrams []datagram // in the order in which they were begun
	// made is the Joiner that New answered: a copy of the struct, that would share its datagrams, is told by it.
	made *Joiner
}

// New is one without pieces, in which each datagram goes when it is as old as limit.
func New(limit int) (*Joiner, api.Errno) {
	if limit < 1 || limit > maxLimit {
		return nil, api.ErrArg
	}
	j := &Joiner{limit: limit}
	j.made = j
	return j, api.OK
}

// Put puts a packet, and tells a whole one, if it is that or makes one whole.
func (j *Joiner) Put(p api.Packet) (api.Packet, bool) {
	if j.none() || !mayBe(p) {
		return api.Packet{}, false
	}
	if p.At == 0 && !p.More {
		return p, true
	}
	i := j.begun(name{from: p.From, to: p.To, proto: p.Proto, id: p.Id})
	d := &j.datagrams[i]
	x := piece{at: p.At, data: p.Data, more: p.More}
	if slices.Contains(d.pieces, x) {
		return api.Packet{}, false
	}
	if !d.mayHave(x) {
		j.drop(i)
		return api.Packet{}, false
	}
	d.pieces = append(d.pieces, x)
	if x.at == 0 {
		d.ttl = p.Ttl
	}
	if !d.isWhole() {
		return api.Packet{}, false
	}
	whole := d.packet()
	j.drop(i)
	return whole, true
}

// Tick makes each datagram one older, and lets those go that are too old then.
func (j *Joiner) Tick() {
	if j.none() {
		return
	}
	for i := range j.datagrams {
		j.datagrams[i].age++
	}
	j.datagrams = slices.DeleteFunc(j.datagrams, func(d datagram) bool { return d.age >= j.limit })
}

// Len is how many datagrams are there.
func (j *Joiner) Len() int {
	if j.none() {
		return 0
	}
	return len(j.datagrams)
}

func (j *Joiner) none() bool {
	return j == nil || j.made != j
}

// begun is where the datagram of that name stands, which is begun, if it is not there. If there are as many as may be, the first one goes for it.
func (j *Joiner) begun(s name) int {
	i := slices.IndexFunc(j.datagrams, func(d datagram) bool { return d.name == s })
	if i >= 0 {
		return i
	}
	if len(j.datagrams) == api.MaxParts {
		j.drop(0)
	}
	j.datagrams = append(j.datagrams, datagram{name: s})
	return len(j.datagrams) - 1
}

func (j *Joiner) drop(i int) {
	j.datagrams = slices.Delete(j.datagrams, i, i+1)
}
