package ipv4_test

import (
	"maps"
	"math/rand"
	"slices"
	"strings"
	"testing"

	"blockyard/api"
	"blockyard/ipv4"
)

// P8.5

// plainMayBe tells whether p may be, as the words say it, one by one.
func plainMayBe(p api.Packet) bool {
	n := len(p.Data)
	switch {
	case p.Id < 0 || p.Id > 65535, p.Proto < 0 || p.Proto > 255, p.Ttl < 0 || p.Ttl > 255, p.At < 0 || p.At > 65528:
		return false
	case p.At%8 != 0, p.At+n > 65515, p.More && n%8 != 0, p.More && n == 0:
		return false
	}
	return true
}

// randomPacket is one that mostly may be.
func randomPacket(r *rand.Rand) api.Packet {
	p := api.Packet{Id: r.Intn(65536), Proto: r.Intn(256), Ttl: r.Intn(256), Data: text(r.Intn(620)), More: r.Intn(2) == 0}
	r.Read(p.From[:])
	r.Read(p.To[:])
	if r.Intn(2) == 0 {
		p.At = 8 * r.Intn(8192)
	}
	if r.Intn(3) > 0 {
		p.Data = p.Data[:len(p.Data)/8*8]
	}
	switch r.Intn(30) {
	case 0:
		p.Id += 65536*r.Intn(3) - 65536
	case 1:
		p.Proto += 256*r.Intn(3) - 256
	case 2:
		p.Ttl += 256*r.Intn(3) - 256
	case 3:
		p.At += r.Intn(17) - 8
	}
	return p
}

func TestWhatHasBytesIsReadFromThem(t *testing.T) {
	r, n := rand.New(rand.NewSource(1)), 0
	for range 20000 {
		p := randomPacket(r)
		s, e := ipv4.Bytes(p)
		switch {
		case !plainMayBe(p):
			wantNoBytes(t, p, api.ErrArg)
			continue
		case len(p.Data) > 566:
			wantNoBytes(t, p, api.ErrLong)
			continue
		}
		if e != api.OK || len(s) != 20+len(p.Data) {
			t.Fatalf("Bytes(%s): %d bytes, %d", told(p), len(s), e)
		}
		wantSum(t, s[:20], 0)
		wantRead(t, s, p)
		wantRead(t, s+text(r.Intn(30)), p)
		n++
	}
	if n < 10000 {
		t.Fatal("too few have bytes:", n)
	}
}

// What is read may be; if it may go, it is read from its own bytes, too.
func TestWhatIsReadMayBe(t *testing.T) {
	r, n := rand.New(rand.NewSource(2)), 0
	for range 20000 {
		x := raw{first: 69, second: r.Intn(256), id: r.Intn(65536), place: r.Intn(65536) & r.Intn(65536), ttl: r.Intn(256), proto: r.Intn(256), data: text(8 * r.Intn(80))}
		x.all = 20 + len(x.data) - r.Intn(3)*r.Intn(10)
		s := x.with(text(4 * r.Intn(11))).text()
		p, e := ipv4.Read(s)
		if e != api.OK {
			wantNoRead(t, s, e)
			continue
		}
		n++
		if !plainMayBe(p) {
			t.Fatalf("Read(%x): %s", s, told(p))
		}
		if len(p.Data) <= 566 {
			wantBytes(t, p, asRaw(p).text())
			wantRead(t, asRaw(p).text(), p)
		}
	}
	if n < 5000 {
		t.Fatal("too few are read:", n)
	}
}

func TestReadOfAnything(t *testing.T) {
	r := rand.New(rand.NewSource(3))
	for range 50000 {
		b := make([]byte, r.Intn(80))
		r.Read(b)
		if len(b) > 0 {
			b[0] = b[0]%16 + 64
		}
		if len(b) >= 20 {
			b[2] = 0
			b[10], b[11] = 0, 0
			sum := plainSum(string(b[:min(len(b), int(b[0]%16)*4)]))
			b[10], b[11] = byte(sum>>8), byte(sum)
		}
		if p, e := ipv4.Read(string(b)); e != api.OK && p != (api.Packet{}) || e == api.OK && !plainMayBe(p) {
			t.Fatalf("Read(%x): %s, %d", b, told(p), e)
		}
	}
}

// randomPieces are p, cut anywhere, each of which may go, in any order, with a Ttl of its own; some of them come again ahead of the last one.
func randomPieces(r *rand.Rand, p api.Packet) []api.Packet {
	places := map[int]int{}
	for range 1 + r.Intn(8) {
		places[8*(1+r.Intn(len(p.Data)/8))]++
	}
	for x := 512; x < len(p.Data); x += 512 {
		places[x]++
	}
	l := pieces(p, slices.Sorted(maps.Keys(places))...)
	for i := range l[1:] {
		l[1+i].Ttl = r.Intn(256)
	}
	r.Shuffle(len(l), func(i, k int) { l[i], l[k] = l[k], l[i] })
	for range r.Intn(4) {
		i := r.Intn(len(l) - 1)
		l = slices.Insert(l, i+1+r.Intn(len(l)-1-i), l[i])
	}
	return l
}

// A datagram is told once, as it was, however it was cut and in whatever order its pieces come through the wire, with three others and limit - 1 Ticks between.
func TestWhatWasCutIsTold(t *testing.T) {
	for seed := range int64(4000) {
		r := rand.New(rand.NewSource(seed))
		p := randomPacket(r)
		p = api.Packet{Id: r.Intn(60000), From: p.From, To: p.To, Proto: p.Proto & 255, Ttl: r.Intn(256), Data: text(8 + r.Intn(1193))}
		l, limit := randomPieces(r, p), 1+r.Intn(5)
		j := made(t, limit)
		for id := range r.Intn(6) {
			j.Put(cut(numbered(packet(text(24)), 60000+id), 8, 16))
		}
		others, left := 3, limit-1
		for i, x := range l {
			s, e := ipv4.Bytes(x)
			if e != api.OK {
				t.Fatalf("Bytes(%s): %d", told(x), e)
			}
			x, _ = ipv4.Read(s)
			got, ok := j.Put(x)
			if i < len(l)-1 && (ok || got != (api.Packet{})) || i == len(l)-1 && (!ok || got != p) {
				t.Fatalf("seed %d, Put(%s): %s, %v, of %s", seed, told(x), told(got), ok, told(p))
			}
			if others > 0 && r.Intn(3) == 0 {
				j.Put(cut(numbered(packet(text(24)), 61000+others), 8, 16))
				others--
			}
			if left > 0 && r.Intn(3) == 0 {
				j.Tick()
				left--
			}
		}
	}
}

// Four others are too many, limit Ticks too.
func TestWhatWasCutAndForgotten(t *testing.T) {
	for others := range 6 {
		for limit := 1; limit < 4; limit++ {
			for n := range 5 {
				j, p := made(t, limit), packet(text(24))
				wantNone(t, j, cut(p, 0, 16), 1)
				ticks(j, n)
				for id := range others {
					j.Put(cut(numbered(p, id), 0, 8))
				}
				got, ok := j.Put(cut(p, 16, 24))
				if want := others < 4 && n < limit; ok != want || want && got != p {
					t.Fatalf("%d others, %d Ticks, limit %d: %s, %v", others, n, limit, told(got), ok)
				}
			}
		}
	}
}

// plain does by other means what a joiner does: it has the bytes one by one.
type plain struct {
	limit int
	parts []*plainPart
}

type plainPart struct {
	age, ttl, end int // the end is less than 0, if none is told
	bytes         map[int]byte
	pieces        []api.Packet
}

func (a *plainPart) isOf(p api.Packet) bool {
	q := a.pieces[0]
	return q.From == p.From && q.To == p.To && q.Proto == p.Proto && q.Id == p.Id
}

func (a *plainPart) has(p api.Packet) bool {
	for _, q := range a.pieces {
		if q.At == p.At && q.Data == p.Data && q.More == p.More {
			return true
		}
	}
	return false
}

func (a *plainPart) mayHave(p api.Packet) bool {
	end := p.At + len(p.Data)
	if end > 1200 || a.end >= 0 && (!p.More || end > a.end) {
		return false
	}
	for at := range a.bytes {
		if at >= p.At && at < end || !p.More && at >= end {
			return false
		}
	}
	return true
}

func (a *plainPart) add(p api.Packet) {
	for i := range len(p.Data) {
		a.bytes[p.At+i] = p.Data[i]
	}
	if p.At == 0 {
		a.ttl = p.Ttl
	}
	if !p.More {
		a.end = p.At + len(p.Data)
	}
	a.pieces = append(a.pieces, p)
}

func (a *plainPart) whole() (api.Packet, bool) {
	b := strings.Builder{}
	for i := range a.end {
		x, ok := a.bytes[i]
		if !ok {
			return api.Packet{}, false
		}
		b.WriteByte(x)
	}
	p := a.pieces[0]
	return api.Packet{Id: p.Id, From: p.From, To: p.To, Proto: p.Proto, Ttl: a.ttl, Data: b.String()}, a.end >= 0
}

func (m *plain) put(p api.Packet) (api.Packet, bool) {
	if !plainMayBe(p) {
		return api.Packet{}, false
	}
	if p.At == 0 && !p.More {
		return p, true
	}
	i := slices.IndexFunc(m.parts, func(a *plainPart) bool { return a.isOf(p) })
	if i < 0 && len(m.parts) == 4 {
		m.parts = m.parts[1:]
	}
	a := &plainPart{end: -1, bytes: map[int]byte{}}
	if i >= 0 {
		a = m.parts[i]
	}
	if a.has(p) {
		return api.Packet{}, false
	}
	others := slices.DeleteFunc(slices.Clone(m.parts), func(b *plainPart) bool { return b == a })
	if !a.mayHave(p) {
		m.parts = others
		return api.Packet{}, false
	}
	a.add(p)
	if i < 0 {
		m.parts = append(m.parts, a)
	}
	whole, ok := a.whole()
	if !ok {
		return api.Packet{}, false
	}
	m.parts = others
	return whole, true
}

func (m *plain) tick() {
	left := []*plainPart{}
	for _, a := range m.parts {
		a.age++
		if a.age < m.limit {
			left = append(left, a)
		}
	}
	m.parts = left
}

// both puts p into a joiner and a plain one, and holds that they answer the same.
func both(t *testing.T, j *ipv4.Joiner, m *plain, p api.Packet) (api.Packet, bool) {
	t.Helper()
	got, ok := j.Put(p)
	if want, is := m.put(p); got != want || ok != is {
		t.Fatalf("Put(%s): %s, %v, not %s, %v", told(p), told(got), ok, told(want), is)
	}
	wantLen(t, j, len(m.parts))
	return got, ok
}

// somePiece is one of a few places, among them some near MaxIP, with one of two texts; few of them may not be.
func somePiece(r *rand.Rand, names int) api.Packet {
	const units = 4
	all := text(8 * units)
	if r.Intn(8) == 0 {
		all = strings.Repeat("x", 8*units)
	}
	from := r.Intn(units)
	n := 8 * (1 + r.Intn(units-from))
	p := api.Packet{Id: r.Intn(names), From: ipA, To: ipB, Proto: 6, Ttl: r.Intn(256), At: 8 * from, More: from*8+n < 8*units}
	p.Data = all[8*from : 8*from+n]
	switch r.Intn(24) {
	case 0:
		p.More = !p.More
	case 1:
		p.Data = p.Data[:n-r.Intn(9)]
	case 2:
		p.At = 1200 + 8*(r.Intn(3)-1) - n
	case 3:
		p.More, p.Data = false, p.Data[:n-r.Intn(9)]
	case 4:
		p.Proto, p.To[3] = 6+r.Intn(2), byte(r.Intn(2))
	}
	return p
}

func TestAJoinerIsAsAPlainOne(t *testing.T) {
	wholes := 0
	for seed := range int64(600) {
		r := rand.New(rand.NewSource(seed))
		limit, names, often := 1+r.Intn(12), 1+r.Intn(7), 2+r.Intn(20)
		j, m := made(t, limit), &plain{limit: limit}
		for range 400 {
			if r.Intn(often) == 0 {
				j.Tick()
				m.tick()
				wantLen(t, j, len(m.parts))
				continue
			}
			p := somePiece(r, names)
			if _, ok := both(t, j, m, p); ok && (p.At > 0 || p.More) {
				wholes++
			}
		}
	}
	if wholes < 5000 {
		t.Fatal("too few were whole:", wholes)
	}
}

// All pieces of up to 16 bytes that begin at 0, 8 or 16, three of them in each order.
func TestAllThreePieces(t *testing.T) {
	l := []api.Packet{}
	for at := 0; at <= 16; at += 8 {
		for _, n := range []int{0, 4, 8, 16} {
			for _, more := range []bool{false, true} {
				p := packet(text(32)[at : at+n])
				p.At, p.More = at, more
				l = append(l, p)
			}
		}
	}
	for _, x := range l {
		for _, y := range l {
			for _, z := range l {
				j, m := made(t, 1), &plain{limit: 1}
				both(t, j, m, x)
				both(t, j, m, y)
				both(t, j, m, z)
			}
		}
	}
}

// What is told was put, byte by byte, for that name, fewer than limit Ticks ago.
func TestWhatIsToldWasPut(t *testing.T) {
	type put struct {
		when int
		p    api.Packet
	}
	for seed := range int64(200) {
		r := rand.New(rand.NewSource(seed))
		limit, now := 2+r.Intn(6), 0
		j, l := made(t, limit), []put{}
		for range 400 {
			if r.Intn(10) == 0 {
				j.Tick()
				now++
				continue
			}
			p := somePiece(r, 5)
			l = append(l, put{now, p})
			got, ok := j.Put(p)
			if !ok {
				continue
			}
			for i := range len(got.Data) {
				if !slices.ContainsFunc(l, func(x put) bool {
					q := x.p
					same := q.From == got.From && q.To == got.To && q.Proto == got.Proto && q.Id == got.Id
					return same && now-x.when < limit && i >= q.At && i < q.At+len(q.Data) && q.Data[i-q.At] == got.Data[i]
				}) {
					t.Fatalf("seed %d: byte %d of %s was not put", seed, i, told(got))
				}
			}
			if got.At != 0 || got.More {
				t.Fatalf("seed %d: %s is not whole", seed, told(got))
			}
		}
	}
}

func TestCallsKnowNothingOfOneAnother(t *testing.T) {
	p := packet("hi")
	s := asRaw(p).text()
	for range 3 {
		wantSum(t, s[:20], 0)
		wantBytes(t, p, s)
		wantRead(t, s, p)
		wantNoBytes(t, packet(text(567)), api.ErrLong)
		wantNoRead(t, spoil(s), api.ErrSum)
		q, _ := ipv4.Read(s)
		q.From[0], q.To[0] = 99, 99
	}
}
