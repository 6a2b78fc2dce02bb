package rbuf_test

import (
	"math/rand"
	"slices"
	"strings"
	"testing"

	"blockyard/api"
	"blockyard/rbuf"
)

// plain does by other means what a buffer does: it goes through the window's numbers, not through the data.
type plain struct {
	room  int
	next  uint32
	ready string
	held  map[uint32]byte
}

func (p *plain) put(seq uint32, data string) int {
	for i := range p.room - len(p.ready) {
		number := p.next + uint32(i)
		at := int(number - seq)
		if _, held := p.held[number]; !held && at < len(data) && at < 1<<16 {
			p.held[number] = data[at]
		}
	}
	before := len(p.ready)
	for {
		x, ok := p.held[p.next]
		if !ok {
			return len(p.ready) - before
		}
		delete(p.held, p.next)
		p.ready += string([]byte{x})
		p.next++
	}
}

func (p *plain) read(n int) string {
	n = max(0, min(n, len(p.ready)))
	s := p.ready[:n]
	p.ready = p.ready[n:]
	return s
}

// pair is a buffer, and a plain one beside it.
type pair struct {
	b *rbuf.Buf
	p *plain
}

func pairOf(t *testing.T, next uint32, room int) pair {
	t.Helper()
	return pair{made(t, next, room), &plain{room: room, next: next, held: map[uint32]byte{}}}
}

func (x pair) same(t *testing.T) {
	t.Helper()
	wantState(t, x.b, len(x.p.ready), len(x.p.held), x.p.next, x.p.room-len(x.p.ready))
	if n := x.b.Ready() + x.b.Held(); n > x.p.room {
		t.Fatalf("ready and held: %d of %d", n, x.p.room)
	}
}

func (x pair) put(t *testing.T, seq uint32, data string) {
	t.Helper()
	if got, want := x.b.Put(seq, data), x.p.put(seq, data); got != want {
		t.Fatalf("Put(%d, %d bytes): %d, not %d", seq, len(data), got, want)
	}
	x.same(t)
}

func (x pair) read(t *testing.T, n int) string {
	t.Helper()
	got, want := x.b.Read(n), x.p.read(n)
	if got != want {
		t.Fatalf("Read(%d): %q, not %q", n, got, want)
	}
	x.same(t)
	return got
}

// orders are all orders of the numbers below n.
func orders(n int) [][]int {
	if n == 0 {
		return [][]int{{}}
	}
	l := [][]int{}
	for _, order := range orders(n - 1) {
		for i := range n {
			l = append(l, slices.Insert(slices.Clone(order), i, n-1))
		}
	}
	return l
}

// P12.5

// Pieces of one stream that overlap, and hold one another, in each order: all of it is ready, when the last one lacking is there.
func TestEachOrderOfPieces(t *testing.T) {
	pieces := [][2]int{{0, 3}, {2, 6}, {6, 7}, {7, 12}, {5, 9}, {12, 15}}
	stream := text(15)
	for _, start := range []uint32{0, 100, 1<<32 - 1, 1<<32 - 4, 1<<32 - 13} {
		for _, order := range orders(len(pieces)) {
			x := pairOf(t, start, 15)
			for _, i := range order {
				from, to := pieces[i][0], pieces[i][1]
				x.put(t, start+uint32(from), stream[from:to])
				x.put(t, start+uint32(from), stream[from:to])
			}
			if got := x.read(t, 99); got != stream {
				t.Fatalf("%v: %q, not %q", order, got, stream)
			}
		}
	}
}

// The same, but that each byte of a piece tells of which piece it is: at each number stays what came first.
func TestEachOrderOfUnlikePieces(t *testing.T) {
	pieces := [][2]int{{0, 3}, {1, 6}, {4, 8}, {2, 9}, {6, 12}, {0, 12}}
	for _, start := range []uint32{7, 1<<32 - 6} {
		for _, order := range orders(len(pieces)) {
			x := pairOf(t, start, 12)
			first := []byte(strings.Repeat(" ", 12))
			for _, i := range order {
				from, to := pieces[i][0], pieces[i][1]
				x.put(t, start+uint32(from), strings.Repeat(string(rune('a'+i)), to-from))
				for k := from; k < to; k++ {
					if first[k] == ' ' {
						first[k] = byte('a' + i)
					}
				}
			}
			if got := x.read(t, 99); got != string(first) {
				t.Fatalf("%v: %q, not %q", order, got, first)
			}
		}
	}
}

// All lists of three calls on small buffers: pieces of three bytes or fewer anywhere near, and Reads.
func TestAllThreeCalls(t *testing.T) {
	const puts = 9 * 3
	do := func(x pair, call, nth int) {
		if call >= puts {
			x.read(t, call-puts+1)
			return
		}
		x.put(t, x.p.next-3+uint32(call/3), text(9)[3*nth:3*nth+1+call%3])
	}
	for _, start := range []uint32{20, 1<<32 - 2} {
		for room := 1; room <= 4; room++ {
			for calls := range (puts + 3) * (puts + 3) * (puts + 3) {
				x := pairOf(t, start, room)
				do(x, calls%(puts+3), 0)
				do(x, calls/(puts+3)%(puts+3), 1)
				do(x, calls/(puts+3)/(puts+3), 2)
				x.read(t, room)
			}
		}
	}
}

// somePiece is where a piece begins and ends that lies somewhere near a place.
func somePiece(r *rand.Rand, place, room, length int) (int, int) {
	from := place - r.Intn(room+3) + r.Intn(2*room+3)
	n := 1 + r.Intn(room+2)
	if r.Intn(20) == 0 {
		n = 1<<16 - 3 + r.Intn(7)
	}
	from = min(max(from, 0), length)
	return from, min(from+n, length)
}

// What is read of a stream is a beginning of it, whatever pieces come; and with all of it put from its beginning on it is the whole.
func TestWhateverPiecesComeAStreamIsRead(t *testing.T) {
	for seed := range int64(400) {
		r := rand.New(rand.NewSource(seed))
		room := 1 + r.Intn(1+r.Intn(api.Room))
		stream := text(1 + r.Intn(8*room))
		start := starts()[r.Intn(len(starts()))] + uint32(r.Intn(9))
		x, told := pairOf(t, start, room), ""
		for range 60 {
			if r.Intn(3) == 0 {
				told += x.read(t, r.Intn(room+2)-1)
			} else {
				from, to := somePiece(r, len(told), room, len(stream))
				x.put(t, start+uint32(from), stream[from:to])
			}
			if !strings.HasPrefix(stream, told) {
				t.Fatalf("seed %d: what was read is no beginning of the stream", seed)
			}
		}
		for from := 0; from < len(stream); {
			to := min(from+1+r.Intn(room), len(stream))
			told += x.read(t, room)
			x.put(t, start+uint32(from), stream[from:to])
			from = to
		}
		if told += x.read(t, room); told != stream {
			t.Fatalf("seed %d: %d bytes were read, not the %d of the stream", seed, len(told), len(stream))
		}
		x.same(t)
	}
}

// Of bytes that are unlike at one number the first one that was inside the window is read.
func TestManyUnlikePiecesBesideAPlainOne(t *testing.T) {
	gaps := 0
	for seed := range int64(400) {
		r := rand.New(rand.NewSource(seed))
		room := 1 + r.Intn(40)
		x := pairOf(t, starts()[r.Intn(len(starts()))], room)
		for range 300 {
			switch r.Intn(12) {
			case 0:
				x.read(t, r.Intn(room+3)-1)
			case 1:
				x.put(t, r.Uint32(), text(r.Intn(100)))
			case 2:
				from := uint32(r.Intn(1<<16 + 3*room))
				x.put(t, x.p.next+uint32(room)-from, text(1<<16-room+r.Intn(3*room)))
			default:
				from := r.Intn(300)
				x.put(t, x.p.next+uint32(r.Intn(room+5)-3), text(from + r.Intn(room+3))[from:])
			}
			if len(x.p.held) > 0 {
				gaps++
			}
		}
	}
	if gaps < 10000 {
		t.Fatal("too seldom a byte is held:", gaps)
	}
}

// A stream comes over a wire that loses, doubles and mixes up its segments, and is sent again till it is there.
func TestAStreamComesOverABadWire(t *testing.T) {
	stream := text(20000)
	for seed := range int64(30) {
		r := rand.New(rand.NewSource(seed))
		start := uint32(1<<32 - r.Intn(20000))
		x, told := pairOf(t, start, api.Room), strings.Builder{}
		for rounds := 0; told.Len() < len(stream); rounds++ {
			if rounds > 5000 {
				t.Fatalf("seed %d: %d bytes are read, and no more come", seed, told.Len())
			}
			at := int(x.b.Next() - start)
			for range 6 {
				from := min(at+536*r.Intn(5), len(stream))
				if r.Intn(3) > 0 {
					x.put(t, start+uint32(from), stream[from:min(from+1+r.Intn(536), len(stream))])
				}
			}
			told.WriteString(x.read(t, r.Intn(2*api.Room)))
		}
		if told.String() != stream {
			t.Fatalf("seed %d: another stream was read", seed)
		}
	}
}
