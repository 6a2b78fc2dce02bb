package ipv4_test

import (
	"math"
	"slices"
	"testing"

	"blockyard/api"
	"blockyard/ipv4"
)

func made(t *testing.T, limit int) *ipv4.Joiner {
	t.Helper()
	j, e := ipv4.New(limit)
	if e != api.OK || j == nil || j.Len() != 0 {
		t.Fatalf("New(%d): %v, %d", limit, j, e)
	}
	return j
}

func wantLen(t *testing.T, j *ipv4.Joiner, want int) {
	t.Helper()
	if n := j.Len(); n != want {
		t.Fatalf("Len: %d, not %d", n, want)
	}
}

// wantNone holds that p tells nothing, and that there are n datagrams then.
func wantNone(t *testing.T, j *ipv4.Joiner, p api.Packet, n int) {
	t.Helper()
	if got, ok := j.Put(p); got != (api.Packet{}) || ok {
		t.Fatalf("Put(%s): %s, %v", told(p), told(got), ok)
	}
	wantLen(t, j, n)
}

// wantWhole holds that p tells want, and that there are n datagrams then.
func wantWhole(t *testing.T, j *ipv4.Joiner, p, want api.Packet, n int) {
	t.Helper()
	if got, ok := j.Put(p); got != want || !ok {
		t.Fatalf("Put(%s): %s, %v, not %s", told(p), told(got), ok, told(want))
	}
	wantLen(t, j, n)
}

func ticks(j *ipv4.Joiner, n int) {
	for range n {
		j.Tick()
	}
}

// cut is the piece of p from a byte on up to another one.
func cut(p api.Packet, from, to int) api.Packet {
	p.At, p.More, p.Data = from, to < len(p.Data), p.Data[from:to]
	return p
}

// last is cut, but that nothing stands behind it, whatever p has.
func last(p api.Packet, from, to int) api.Packet {
	p = cut(p, from, to)
	p.More = false
	return p
}

// pieces are those of p that begin at 0 and at each of places.
func pieces(p api.Packet, places ...int) []api.Packet {
	l, from := []api.Packet{}, 0
	for _, to := range places {
		x := cut(p, from, to)
		x.More = true
		l = append(l, x)
		from = to
	}
	return append(l, last(p, from, len(p.Data)))
}

// numbered is p with another Id.
func numbered(p api.Packet, id int) api.Packet {
	p.Id = id
	return p
}

// orders are all orders of the numbers below n.
func orders(n int) [][]int {
	if n == 0 {
		return [][]int{{}}
	}
	l := [][]int{}
	for _, order := range orders(n - 1) {
		for i := range n {
			l = append(l, slices.Insert(slices.Clone(order), i, n-1))
		}
	}
	return l
}

// P8.3: New

func TestNewRefuses(t *testing.T) {
	for _, limit := range []int{0, -1, -5, 1<<20 + 1, 1 << 21, 1<<32 + 1, math.MaxInt, math.MinInt, math.MinInt + 5} {
		if j, e := ipv4.New(limit); j != nil || e != api.ErrArg {
			t.Errorf("New(%d): %v, %d", limit, j, e)
		}
	}
	for _, limit := range []int{1, 2, 255, 256, 65536, 1<<20 - 1, 1 << 20} {
		made(t, limit)
	}
}

// P8.3: Put

func TestPutOfTheExample(t *testing.T) {
	j, p := made(t, 5), packet("0123456789abcdef")
	wantNone(t, j, cut(p, 8, 16), 1)
	wantWhole(t, j, cut(p, 0, 8), p, 0)
}

func TestPutOfWholeOnes(t *testing.T) {
	j := made(t, 1)
	for _, n := range []int{0, 1, 7, 8, 16, 566, 567, 1200, 1201, 1208, 65514, 65515} {
		wantWhole(t, j, packet(text(n)), packet(text(n)), 0)
		wantWhole(t, j, packet(text(n)), packet(text(n)), 0)
	}
	wantWhole(t, j, api.Packet{}, api.Packet{}, 0)
	p := api.Packet{Id: 65535, From: ipB, To: ipA, Proto: 255, Ttl: 255, Data: "hi"}
	wantWhole(t, j, p, p, 0)
}

// A whole packet is no piece: it lets nothing go, also if there are pieces of that name.
func TestPutOfWholeOnesLetsPiecesBe(t *testing.T) {
	j, p := made(t, 5), packet(text(24))
	for id := range 4 {
		wantNone(t, j, cut(numbered(p, id), 8, 24), id+1)
	}
	for id := range 6 {
		wantWhole(t, j, numbered(packet("other"), id), numbered(packet("other"), id), 4)
		wantWhole(t, j, numbered(p, id), numbered(p, id), 4)
	}
	for id := range 4 {
		wantWhole(t, j, cut(numbered(p, id), 0, 8), numbered(p, id), 3-id)
	}
}

func TestPutOfWhatMayNotBe(t *testing.T) {
	j, p := made(t, 5), packet(text(24))
	for id := range 4 {
		wantNone(t, j, cut(numbered(p, id), 8, 16), id+1)
	}
	for _, change := range changes() {
		q := packet("12345678")
		change(&q)
		wantNone(t, j, q, 4)
		wantNone(t, made(t, 5), q, 0)
		q = cut(numbered(p, 2), 0, 8)
		q.More = false
		change(&q)
		wantNone(t, j, q, 4)
	}
	for id := range 4 {
		wantNone(t, j, cut(numbered(p, id), 0, 8), 4-id)
		wantWhole(t, j, cut(numbered(p, id), 16, 24), numbered(p, id), 3-id)
	}
}

func TestPiecesInEachOrder(t *testing.T) {
	for _, p := range []api.Packet{packet(text(64)), packet(text(61)), packet(text(57)), packet(text(56))} {
		l := pieces(p, 8, 16, 40, 56)
		for _, order := range orders(len(l)) {
			j := made(t, 1)
			for n, i := range order {
				if n < len(l)-1 {
					wantNone(t, j, l[i], 1)
				} else {
					wantWhole(t, j, l[i], p, 0)
				}
			}
		}
	}
}

// The last piece may have no Data: it tells the end, and nothing else.
func TestAnEmptyLastPiece(t *testing.T) {
	p := packet(text(16))
	l := pieces(p, 8, 16)
	for _, order := range orders(3) {
		j := made(t, 1)
		wantNone(t, j, l[order[0]], 1)
		wantNone(t, j, l[order[1]], 1)
		wantWhole(t, j, l[order[2]], p, 0)
	}
	for _, order := range orders(2) {
		j := made(t, 1)
		l := pieces(p, 16)
		wantNone(t, j, l[order[0]], 1)
		wantWhole(t, j, l[order[1]], p, 0)
	}
}

// The Ttl of the whole is that of the piece at 0, wherever that comes.
func TestTheTtlOfTheFirstPiece(t *testing.T) {
	p := packet(text(30))
	l := pieces(p, 8, 16, 24)
	for _, ttl := range []int{0, 1, 254, 255} {
		want := p
		want.Ttl = ttl
		for i := range l {
			l[i].Ttl = (ttl + 40*i) % 256
		}
		for _, order := range orders(len(l)) {
			j := made(t, 1)
			for _, i := range order[:3] {
				wantNone(t, j, l[i], 1)
			}
			wantWhole(t, j, l[order[3]], want, 0)
		}
	}
}

// A piece that is there already does nothing, whatever its Ttl.
func TestPiecesThatComeAgain(t *testing.T) {
	p := packet(text(40))
	l := pieces(p, 8, 24, 40)
	for _, order := range orders(len(l)) {
		j := made(t, 1)
		for n, i := range order[:3] {
			wantNone(t, j, l[i], 1)
			for _, k := range order[:n+1] {
				again := l[k]
				wantNone(t, j, again, 1)
				again.Ttl++
				wantNone(t, j, again, 1)
			}
		}
		wantWhole(t, j, l[order[3]], p, 0)
	}
}

// It is told once: what comes again then is of a new one.
func TestToldOnce(t *testing.T) {
	j, p := made(t, 2), packet(text(20))
	for range 3 {
		wantNone(t, j, cut(p, 0, 8), 1)
		wantWhole(t, j, cut(p, 8, 20), p, 0)
	}
	wantNone(t, j, cut(p, 8, 20), 1)
	wantNone(t, j, cut(p, 8, 20), 1)
	wantWhole(t, j, cut(p, 0, 8), p, 0)
}

// goes holds that, behind those of ahead, p lets the datagram go, whole: all its pieces are new then.
func goes(t *testing.T, p api.Packet, ahead ...api.Packet) {
	t.Helper()
	j, other := made(t, 5), numbered(packet(text(32)), 99)
	wantNone(t, j, cut(other, 16, 32), 1)
	for _, x := range ahead {
		wantNone(t, j, x, 2)
	}
	wantNone(t, j, p, 1)
	whole := packet(text(48))
	l := pieces(whole, 8, 16, 24, 40)
	for _, x := range l[:4] {
		wantNone(t, j, x, 2)
	}
	wantWhole(t, j, l[4], whole, 1)
	wantWhole(t, j, cut(other, 0, 16), other, 0)
}

func TestPiecesThatOverlap(t *testing.T) {
	p := packet(text(64))
	for _, x := range [][2]int{{8, 24}, {8, 48}, {32, 48}, {32, 64}, {24, 32}, {16, 24}, {32, 40}, {0, 24}, {0, 56}, {16, 64}, {0, 40}} {
		goes(t, cut(p, x[0], x[1]), cut(p, 16, 40), cut(p, 48, 56))
	}
	goes(t, cut(p, 16, 64), cut(p, 40, 64))
	goes(t, cut(p, 40, 64), cut(p, 16, 64), cut(p, 0, 8))
	// Where one is, another one with other Data is, or one that differs by More.
	other := packet(text(65))
	goes(t, cut(other, 16, 40), cut(p, 16, 40))
	goes(t, last(p, 16, 40), cut(p, 16, 40))
	goes(t, cut(p, 16, 40), last(p, 16, 40))
}

// One bit is enough.
func TestPiecesWithOtherData(t *testing.T) {
	p := packet(text(64))
	for i := range 64 {
		b := []byte(p.Data)
		b[16+i/8] ^= 1 << (i % 8)
		goes(t, cut(packet(string(b)), 16, 24), cut(p, 0, 8), cut(p, 16, 24))
	}
}

func TestPiecesAboveMaxIP(t *testing.T) {
	p := packet(text(1200))
	for _, order := range orders(3) {
		j, l := made(t, 1), pieces(p, 8, 1192)
		wantNone(t, j, l[order[0]], 1)
		wantNone(t, j, l[order[1]], 1)
		wantWhole(t, j, l[order[2]], p, 0)
		j, l = made(t, 1), pieces(p, 8, 1200)
		wantNone(t, j, l[order[0]], 1)
		wantNone(t, j, l[order[1]], 1)
		wantWhole(t, j, l[order[2]], p, 0)
	}
	long := packet(text(2000))
	for _, x := range []api.Packet{cut(long, 1192, 1208), cut(long, 1200, 1208), last(long, 1192, 1201), last(long, 1200, 1201), last(long, 1208, 1208), cut(long, 0, 1208), last(long, 8, 2000), cut(long, 1600, 1608)} {
		goes(t, x)
		goes(t, x, cut(long, 8, 16))
		goes(t, x, cut(long, 0, 8), cut(long, 1184, 1192))
	}
	far := packet("123")
	far.At = 65512
	goes(t, far)
	goes(t, far, cut(long, 0, 8))
}

// A datagram has at most as many pieces as it has bytes up to MaxIP for them, and one that tells the end.
func TestAsManyPiecesAsThereMayBe(t *testing.T) {
	j, p := made(t, 1), packet(text(1200))
	for at := 8; at < 1200; at += 8 {
		x := cut(p, at, at+8)
		x.More = true
		wantNone(t, j, x, 1)
	}
	wantNone(t, j, last(p, 1200, 1200), 1)
	wantWhole(t, j, cut(p, 0, 8), p, 0)
}

func TestPiecesAboveTheEnd(t *testing.T) {
	p := packet(text(64))
	for _, end := range []api.Packet{last(p, 24, 32), last(p, 24, 29), last(p, 24, 25), last(p, 24, 24)} {
		for _, above := range []api.Packet{cut(p, 32, 40), cut(p, 40, 48), cut(p, 24, 40), cut(p, 16, 40)} {
			goes(t, above, end)
			goes(t, end, above)
			goes(t, above, cut(p, 0, 8), end)
			goes(t, end, above, cut(p, 0, 8))
		}
	}
	// The end is within what is there: a unit is above it.
	goes(t, last(p, 16, 21), cut(p, 16, 24))
	goes(t, cut(p, 16, 24), last(p, 16, 21))
	goes(t, last(p, 16, 16), cut(p, 8, 24))
	goes(t, cut(p, 8, 24), last(p, 16, 16))
	// Up to the end they are no matter.
	j := made(t, 1)
	wantNone(t, j, last(p, 24, 24), 1)
	wantNone(t, j, cut(p, 8, 24), 1)
	wantWhole(t, j, cut(p, 0, 8), packet(text(64)[:24]), 0)
}

func TestTwoEnds(t *testing.T) {
	p := packet(text(64))
	ends := []api.Packet{last(p, 8, 16), last(p, 8, 8), last(p, 8, 12), last(p, 16, 24), last(p, 16, 16), last(p, 24, 64), last(p, 24, 24)}
	for i, x := range ends {
		for k, y := range ends {
			if i != k {
				goes(t, x, y)
			}
		}
	}
}

// What went is begun anew by what comes behind it, and has its age then.
func TestAnewBehindWhatWent(t *testing.T) {
	j, p := made(t, 2), packet(text(32))
	wantNone(t, j, cut(p, 0, 16), 1)
	wantNone(t, j, cut(p, 8, 16), 0)
	wantNone(t, j, cut(p, 16, 32), 1)
	j.Tick()
	wantNone(t, j, cut(p, 8, 32), 0)
	wantNone(t, j, cut(p, 8, 16), 1)
	j.Tick()
	wantNone(t, j, cut(p, 16, 32), 1)
	wantWhole(t, j, cut(p, 0, 8), p, 0)
}

// Pieces of one datagram have all four alike; which Ttl they have does not count.
func TestPiecesOfUnlikeDatagrams(t *testing.T) {
	p := packet(text(16))
	for i := range 8 {
		others := []func(q *api.Packet){
			func(q *api.Packet) { q.From[i/2] ^= 1 << i },
			func(q *api.Packet) { q.To[i/2] ^= 1 << i },
			func(q *api.Packet) { q.Proto ^= 1 << i },
			func(q *api.Packet) { q.Id ^= 1 << i },
			func(q *api.Packet) { q.Id ^= 256 << i },
			func(q *api.Packet) { q.From, q.To = q.To, q.From },
			func(q *api.Packet) { q.Proto, q.Id = q.Id%256, q.Proto },
		}
		for _, change := range others {
			j, q := made(t, 1), packet(text(24))
			change(&q)
			wantNone(t, j, cut(p, 8, 16), 1)
			wantNone(t, j, cut(q, 0, 16), 2)
			wantWhole(t, j, cut(q, 16, 24), q, 1)
			wantWhole(t, j, cut(p, 0, 8), p, 0)
		}
	}
}

// P8.3: MaxParts

func TestAsManyDatagramsAsThereMayBe(t *testing.T) {
	j, p := made(t, 5), packet(text(24))
	for id := range 4 {
		wantNone(t, j, cut(numbered(p, id), 8, 24), id+1)
	}
	for id := range 4 {
		wantWhole(t, j, cut(numbered(p, id), 0, 8), numbered(p, id), 3-id)
	}
}

func TestTheOneThatWasBegunFirstGoes(t *testing.T) {
	j, p := made(t, 5), packet(text(24))
	for id := range 20 {
		wantNone(t, j, cut(numbered(p, id), 8, 24), min(id+1, 4))
	}
	for id := 16; id < 20; id++ {
		wantWhole(t, j, cut(numbered(p, id), 0, 8), numbered(p, id), 19-id)
	}
	for id := range 4 {
		wantNone(t, j, cut(numbered(p, id), 0, 8), id+1) // nothing is left of them
	}
}

// It goes by its beginning, not by what came last for it.
func TestLaterPiecesDoNotSave(t *testing.T) {
	j, p := made(t, 5), packet(text(32))
	for id := range 4 {
		wantNone(t, j, cut(numbered(p, id), 8, 16), id+1)
	}
	for _, id := range []int{3, 2, 1, 0} {
		wantNone(t, j, cut(numbered(p, id), 16, 24), 4)
		wantNone(t, j, cut(numbered(p, id), 8, 16), 4)
	}
	wantNone(t, j, cut(numbered(p, 4), 0, 8), 4)
	for id := 1; id < 4; id++ {
		wantNone(t, j, cut(numbered(p, id), 0, 8), 4)
		wantWhole(t, j, cut(numbered(p, id), 24, 32), numbered(p, id), 3)
		wantNone(t, j, cut(numbered(p, 100+id), 8, 16), 4)
	}
	wantNone(t, j, cut(numbered(p, 0), 0, 8), 4) // number 4 goes, and this one is begun anew
	wantNone(t, j, cut(numbered(p, 0), 24, 32), 4)
	wantNone(t, j, cut(numbered(p, 4), 8, 32), 4)
}

// One that went by itself, or is whole, makes room: nothing else goes then.
func TestWhatWentMakesRoom(t *testing.T) {
	for which := range 4 {
		for _, whole := range []bool{false, true} {
			j, p := made(t, 5), packet(text(24))
			for id := range 4 {
				wantNone(t, j, cut(numbered(p, id), 8, 24), id+1)
			}
			if whole {
				wantWhole(t, j, cut(numbered(p, which), 0, 8), numbered(p, which), 3)
			} else {
				wantNone(t, j, cut(numbered(p, which), 0, 16), 3)
			}
			wantNone(t, j, cut(numbered(p, 9), 8, 24), 4)
			n := 4
			for _, id := range []int{0, 1, 2, 3, 9} {
				if id != which {
					n--
					wantWhole(t, j, cut(numbered(p, id), 0, 8), numbered(p, id), n)
				}
			}
		}
	}
}

// Begun anew it stands behind the others.
func TestBegunAnewStandsBehind(t *testing.T) {
	j, p := made(t, 5), packet(text(24))
	for id := range 4 {
		wantNone(t, j, cut(numbered(p, id), 8, 16), id+1)
	}
	wantNone(t, j, cut(numbered(p, 0), 8, 24), 3)
	wantNone(t, j, cut(numbered(p, 0), 8, 24), 4)
	wantNone(t, j, cut(numbered(p, 5), 8, 24), 4) // number 1 goes
	wantWhole(t, j, cut(numbered(p, 0), 0, 8), numbered(p, 0), 3)
	wantNone(t, j, cut(numbered(p, 2), 0, 8), 3)
	wantWhole(t, j, cut(numbered(p, 2), 16, 24), numbered(p, 2), 2)
}

// The first one goes for one that is new, also if that goes at once.
func TestTheFirstGoesForOneThatGoes(t *testing.T) {
	j, p := made(t, 5), packet(text(24))
	for id := range 4 {
		wantNone(t, j, cut(numbered(p, id), 8, 24), id+1)
	}
	wantNone(t, j, cut(packet(text(2000)), 1200, 1208), 3)
	for id := 1; id < 4; id++ {
		wantWhole(t, j, cut(numbered(p, id), 0, 8), numbered(p, id), 3-id)
	}
	wantNone(t, j, cut(packet(text(2000)), 1200, 1208), 0)
}

// P8.4

func TestGoneAtTheLimit(t *testing.T) {
	for _, limit := range []int{1, 2, 3, 7, 8, 9, 255, 256, 257, 65535, 65536, 1<<20 - 1, 1 << 20} {
		j, p := made(t, limit), packet(text(24))
		wantNone(t, j, cut(p, 0, 16), 1)
		ticks(j, limit-1)
		wantLen(t, j, 1)
		wantWhole(t, j, cut(p, 16, 24), p, 0) // a Tick younger it is there
		wantNone(t, j, cut(p, 0, 16), 1)
		ticks(j, limit)
		wantLen(t, j, 0)
		wantNone(t, j, cut(p, 16, 24), 1)
	}
}

// Its age is that of its beginning.
func TestLaterPiecesMakeNotYounger(t *testing.T) {
	j, p := made(t, 3), packet(text(40))
	wantNone(t, j, cut(p, 0, 8), 1)
	j.Tick()
	wantNone(t, j, cut(p, 8, 16), 1)
	wantNone(t, j, cut(p, 0, 8), 1)
	j.Tick()
	wantNone(t, j, cut(p, 16, 24), 1)
	wantNone(t, j, cut(p, 8, 16), 1)
	j.Tick()
	wantLen(t, j, 0)
	wantNone(t, j, cut(p, 24, 40), 1)
}

func TestEachDatagramHasItsAge(t *testing.T) {
	j, p := made(t, 3), packet(text(24))
	for id := range 20 {
		wantNone(t, j, cut(numbered(p, id), 0, 16), min(id+1, 3))
		j.Tick()
		wantLen(t, j, min(id+1, 2))
	}
	wantWhole(t, j, cut(numbered(p, 18), 16, 24), numbered(p, 18), 1)
	wantWhole(t, j, cut(numbered(p, 19), 16, 24), numbered(p, 19), 0)
}

// Those that go at one Tick are the first ones: the others stay as they are, in their order.
func TestThoseThatAreTooOldGo(t *testing.T) {
	for old := range 5 {
		j, p := made(t, 2), packet(text(24))
		for id := range old {
			wantNone(t, j, cut(numbered(p, id), 0, 16), id+1)
		}
		j.Tick()
		for id := old; id < 4; id++ {
			wantNone(t, j, cut(numbered(p, id), 0, 16), id+1)
		}
		j.Tick()
		wantLen(t, j, 4-old)
		for id := old; id < 4; id++ {
			wantWhole(t, j, cut(numbered(p, id), 16, 24), numbered(p, id), 3-id)
		}
		j.Tick()
		wantLen(t, j, 0)
	}
}

func TestTickOfNoDatagrams(t *testing.T) {
	j, p := made(t, 2), packet(text(24))
	ticks(j, 100)
	wantLen(t, j, 0)
	wantNone(t, j, cut(p, 0, 16), 1)
	j.Tick()
	wantWhole(t, j, cut(p, 16, 24), p, 0)
}

func TestNone(t *testing.T) {
	p := packet(text(24))
	for name, j := range map[string]*ipv4.Joiner{"nil": nil, "zero": {}, "new": new(ipv4.Joiner)} {
		for range 10 {
			for _, x := range []api.Packet{p, {}, cut(p, 0, 8), cut(p, 8, 24), packet(""), {Id: -1}} {
				if got, ok := j.Put(x); got != (api.Packet{}) || ok {
					t.Fatalf("%s: Put(%s): %s, %v", name, told(x), told(got), ok)
				}
				wantLen(t, j, 0)
			}
			j.Tick()
			wantLen(t, j, 0)
		}
	}
}

// A copy of what New made is none, and does nothing to what New made.
func TestCopyIsNone(t *testing.T) {
	j, p := made(t, 3), packet(text(24))
	wantNone(t, j, cut(p, 0, 8), 1)
	c := *j
	wantNone(t, &c, cut(p, 8, 24), 0)
	wantNone(t, &c, p, 0)
	for id := range 9 {
		wantNone(t, &c, cut(numbered(p, id), 0, 8), 0)
	}
	ticks(&c, 9)
	wantLen(t, j, 1)
	wantWhole(t, j, cut(p, 8, 24), p, 0)
	wantNone(t, &c, p, 0)
}

func TestJoinersAreApart(t *testing.T) {
	j, k, p := made(t, 2), made(t, 9), packet(text(24))
	wantNone(t, j, cut(p, 0, 8), 1)
	wantLen(t, k, 0)
	wantNone(t, k, cut(p, 8, 24), 1)
	ticks(j, 2)
	wantLen(t, j, 0)
	wantLen(t, k, 1)
	for id := range 9 {
		j.Put(cut(numbered(p, id), 0, 8))
	}
	wantWhole(t, k, cut(p, 0, 8), p, 0)
	wantLen(t, j, 4)
}
