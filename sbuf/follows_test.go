package sbuf_test

import (
	"math"
	"math/rand"
	"strings"
	"testing"

	"blockyard/api"
	"blockyard/sbuf"
)

// plain does by other means what a buffer does: it keeps all that was ever written, and looks for a number among those of its bytes.
type plain struct {
	start   uint32
	room    int
	stream  []byte
	gone    int
	numbers []uint32
}

func (p *plain) write(s string) int {
	n := 0
	for n < len(s) && len(p.stream)-p.gone < p.room {
		p.numbers = append(p.numbers, p.start+uint32(len(p.stream)))
		p.stream = append(p.stream, s[n])
		n++
	}
	return n
}

func (p *plain) ack(number uint32) int {
	for i := p.gone; i < len(p.stream); i++ {
		if p.numbers[i]+1 == number {
			n := i + 1 - p.gone
			p.gone = i + 1
			return n
		}
	}
	return 0
}

func (p *plain) get(seq uint32, n int) string {
	for i := p.gone; i < len(p.stream); i++ {
		if p.numbers[i] == seq {
			return string(p.stream[i : i+max(0, min(n, len(p.stream)-i))])
		}
	}
	return ""
}

// pair is a buffer, and a plain one beside it.
type pair struct {
	b *sbuf.Buf
	p *plain
}

func pairOf(t *testing.T, una uint32, room int) pair {
	t.Helper()
	return pair{made(t, una, room), &plain{start: una, room: room}}
}

// same holds that both stand alike, and that Len and Room are together the room, and from Una to End it is Len.
func (x pair) same(t *testing.T) {
	t.Helper()
	length := len(x.p.stream) - x.p.gone
	wantState(t, x.b, x.p.start+uint32(x.p.gone), length, x.p.room-length)
	if x.b.Len()+x.b.Room() != x.p.room || x.b.End()-x.b.Una() != uint32(x.b.Len()) {
		t.Fatalf("Len %d, Room %d, Una %d, End %d of %d", x.b.Len(), x.b.Room(), x.b.Una(), x.b.End(), x.p.room)
	}
}

func (x pair) write(t *testing.T, s string) int {
	t.Helper()
	got, want := x.b.Write(s), x.p.write(s)
	if got != want {
		t.Fatalf("Write(%d bytes): %d, not %d", len(s), got, want)
	}
	x.same(t)
	return got
}

func (x pair) ack(t *testing.T, number uint32) {
	t.Helper()
	if got, want := x.b.Ack(number), x.p.ack(number); got != want {
		t.Fatalf("Ack(%d): %d, not %d", number, got, want)
	}
	x.same(t)
}

func (x pair) get(t *testing.T, seq uint32, n int) string {
	t.Helper()
	got, want := x.b.Get(seq, n), x.p.get(seq, n)
	if got != want {
		t.Fatalf("Get(%d, %d): %q, not %q", seq, n, got, want)
	}
	x.same(t)
	return got
}

// all holds that every byte that is not acknowledged is told under its own number.
func (x pair) all(t *testing.T) {
	t.Helper()
	for i := x.p.gone; i < len(x.p.stream); i++ {
		x.get(t, x.p.start+uint32(i), 1)
	}
	x.get(t, x.p.start+uint32(x.p.gone), math.MaxInt)
}

// P13.5

// All lists of four calls on small buffers: texts of up to three bytes, and numbers anywhere near.
func TestAllFourCalls(t *testing.T) {
	const writes, acks, calls = 4, 7, 4 + 7
	stream := text(12)
	do := func(x pair, call int) {
		if call < writes {
			at := len(x.p.stream)
			x.write(t, stream[at%8:at%8+call])
		} else {
			x.ack(t, x.p.start+uint32(x.p.gone+call-writes-2))
		}
	}
	for _, start := range []uint32{20, 1<<32 - 2} {
		for room := 1; room <= 4; room++ {
			for list := range calls * calls * calls * calls {
				x := pairOf(t, start, room)
				for range 4 {
					do(x, list%calls)
					list /= calls
				}
				x.all(t)
			}
		}
	}
}

// A byte is told under its number behind each call, till it is acknowledged, and not any more from then on.
func TestEachByteHasItsNumberTillItIsAcknowledged(t *testing.T) {
	stream := text(200)
	for _, start := range starts() {
		for _, room := range []int{1, 2, 5, 7, 13} {
			b, written, gone := made(t, start, room), 0, 0
			for step := range 60 {
				written += b.Write(stream[written : written+1+step*5%(room+1)])
				for i := range len(stream) {
					want := ""
					if i >= gone && i < written {
						want = stream[i : i+1]
					}
					wantGet(t, b, start+uint32(i), 1, want)
				}
				gone += b.Ack(start + uint32(gone+step*3%(room+1)))
				wantState(t, b, start+uint32(gone), written-gone, room-written+gone)
				if written+room+1 >= len(stream) {
					break
				}
			}
		}
	}
}

// A buffer beside a plain one, whatever is called.
func TestManyCallsBesideAPlainOne(t *testing.T) {
	full, part := 0, 0
	for seed := range int64(300) {
		r := rand.New(rand.NewSource(seed))
		room := 1 + r.Intn(1+r.Intn(1+r.Intn(api.Room)))
		x := pairOf(t, starts()[r.Intn(len(starts()))]-uint32(r.Intn(9)), room)
		for range 200 {
			near := x.b.Una() + uint32(r.Intn(room+7)-3)
			switch r.Intn(10) {
			case 0, 1, 2:
				x.write(t, text(r.Intn(2*room+3)))
			case 3:
				x.write(t, other(text(r.Intn(3))))
			case 4, 5:
				x.ack(t, near)
			case 6:
				x.ack(t, r.Uint32())
				x.get(t, r.Uint32(), r.Intn(room+2))
			case 7:
				x.ack(t, x.b.End()+uint32(r.Intn(3)-1))
			default:
				x.get(t, near, r.Intn(room+5)-2)
			}
			switch {
			case x.b.Room() == 0:
				full++
			case x.b.Len() > 0:
				part++
			}
		}
		x.all(t)
	}
	if full < 5000 || part < 5000 {
		t.Fatal("too seldom a buffer is full, or has some bytes:", full, part)
	}
}

// over brings a stream over in pieces of at most so many bytes each: written, told, and acknowledged.
func over(t *testing.T, b *sbuf.Buf, stream string, write, tell, ack int) string {
	t.Helper()
	told, written, una := strings.Builder{}, 0, b.Una()
	for steps := 0; told.Len() < len(stream); steps++ {
		if steps > 3*len(stream) {
			t.Fatalf("%d bytes are told, and no more come", told.Len())
		}
		written += b.Write(stream[written:min(written+write, len(stream))])
		told.WriteString(b.Get(una+uint32(told.Len()), tell))
		b.Ack(una + uint32(min(int(b.Una()-una)+ack, told.Len())))
	}
	return told.String()
}

func TestATextComesOverInPiecesWhateverTheRoom(t *testing.T) {
	for room := 1; room <= api.Room; room++ {
		stream := text(2*room + room%7 + 1)
		b := made(t, uint32(1<<32-room), room)
		n := 1 + room/5
		if got := over(t, b, stream, n+room%3, n+room%2, n+room%5); got != stream {
			t.Fatalf("room %d: another text came over", room)
		}
	}
}

// Pieces of every size, as far as they are written, told and acknowledged.
func TestATextComesOverInPiecesOfEverySize(t *testing.T) {
	stream := text(60)
	for _, start := range []uint32{0, 1<<32 - 1, 1<<32 - 30} {
		for room := 1; room <= 7; room++ {
			for sizes := range 8 * 8 * 8 {
				write, tell, ack := 1+sizes%8, 1+sizes/8%8, 1+sizes/64
				if got := over(t, made(t, start, room), stream, write, tell, ack); got != stream {
					t.Fatalf("room %d, pieces of %d, %d and %d: %q", room, write, tell, ack, got)
				}
			}
		}
	}
}

// A stream that is much longer than the room, over the place where the numbers go round.
func TestALongStream(t *testing.T) {
	stream := text(1 << 21)
	for _, room := range []int{536, 2047, 2048} {
		b := made(t, 1<<32-1<<20, room)
		if got := over(t, b, stream, 1000, 536, 1500); got != stream {
			t.Fatalf("room %d: another stream came over", room)
		}
		wantState(t, b, 1<<20-uint32(b.Len()), b.Len(), room-b.Len())
	}
}

// farEnd is who reads a stream: of the bytes that came, in whatever order, those ahead of the first gap are there.
type farEnd struct {
	start uint32
	came  map[uint32]byte
	there []byte
}

func (f *farEnd) put(seq uint32, s string) {
	for i := range len(s) {
		f.came[seq+uint32(i)] = s[i]
	}
	for x, ok := f.came[f.next()]; ok; x, ok = f.came[f.next()] {
		f.there = append(f.there, x)
	}
}

// next is the number of the byte that it waits for.
func (f *farEnd) next() uint32 {
	return f.start + uint32(len(f.there))
}

// What is lost on the wire is told again, and comes over; what is acknowledged late, or twice, or mixed up, harms nothing.
func TestAStreamComesOverABadWire(t *testing.T) {
	stream := text(20000)
	for seed := range int64(30) {
		r := rand.New(rand.NewSource(seed))
		start := uint32(1<<32 - r.Intn(20000))
		far, acks := farEnd{start: start, came: map[uint32]byte{}}, []uint32{start}
		b, written := made(t, start, 1+r.Intn(api.Room)), 0
		for rounds := 0; len(far.there) < len(stream); rounds++ {
			if rounds > 200000 {
				t.Fatalf("seed %d: %d bytes came, and no more do", seed, len(far.there))
			}
			written += b.Write(stream[written:min(written+r.Intn(600), len(stream))])
			for range r.Intn(4) {
				seq := b.Una() + uint32(r.Intn(1+b.Len()))
				if s := b.Get(seq, 1+r.Intn(536)); r.Intn(3) > 0 {
					far.put(seq, s)
				}
			}
			if r.Intn(3) > 0 {
				far.put(b.Una(), b.Get(b.Una(), 536))
			}
			acks = append(acks, far.next())
			b.Ack(acks[r.Intn(len(acks))])
			b.Ack(acks[len(acks)-1-r.Intn(min(3, len(acks)))])
		}
		if string(far.there) != stream {
			t.Fatalf("seed %d: another stream came over", seed)
		}
	}
}
