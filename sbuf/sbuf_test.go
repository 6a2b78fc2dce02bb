package sbuf_test

import (
	"math"
	"testing"

	"blockyard/api"
	"blockyard/sbuf"
)

// text is the first n bytes of a stream in which no two stretches are alike that are near one another. Noughts are among them.
func text(n int) string {
	b := make([]byte, n)
	for i := range n {
		b[i] = byte(i*167 + i/251)
	}
	return string(b)
}

// other is as long as s, and unlike it in each byte.
func other(s string) string {
	b := []byte(s)
	for i := range b {
		b[i] ^= 0x5a
	}
	return string(b)
}

// starts are the numbers that streams begin at: the edges, and some from which the numbers go round inside a buffer.
func starts() []uint32 {
	return []uint32{0, 1, 10, 65535, 1<<31 - 4, 1 << 31, 1<<32 - 2048, 1<<32 - 1000, 1<<32 - 5, 1<<32 - 2, 1<<32 - 1}
}

// farOff are how far from a number those are that no buffer reaches, from whatever side they are looked at.
func farOff() []uint32 {
	return []uint32{
		2049, 1 << 12, 1 << 16, 1<<16 + 1, 1<<31 - 2048, 1<<31 - 1, 1 << 31, 1<<31 + 1, 1<<31 + 2048, 3 << 30,
		1<<32 - 1<<16, 1<<32 - 2049, 1<<32 - 2048, 1<<32 - 2047, 1<<32 - 2, 1<<32 - 1,
	}
}

func made(t *testing.T, una uint32, room int) *sbuf.Buf {
	t.Helper()
	b, e := sbuf.New(una, room)
	if e != api.OK || b == nil {
		t.Fatalf("New(%d, %d): %v, %d", una, room, b, e)
	}
	wantState(t, b, una, 0, room)
	return b
}

// filled has all of s, of which the first byte has the number una.
func filled(t *testing.T, una uint32, room int, s string) *sbuf.Buf {
	t.Helper()
	b := made(t, una, room)
	wantWrite(t, b, s, len(s))
	return b
}

func wantState(t *testing.T, b *sbuf.Buf, una uint32, length, room int) {
	t.Helper()
	if b.Una() != una || b.End() != una+uint32(length) || b.Len() != length || b.Room() != room {
		t.Fatalf("Una %d, End %d, Len %d, Room %d, not %d, %d, %d, %d", b.Una(), b.End(), b.Len(), b.Room(), una, una+uint32(length), length, room)
	}
}

// wantWrite holds that n of the bytes are taken.
func wantWrite(t *testing.T, b *sbuf.Buf, s string, n int) {
	t.Helper()
	una, length, room := b.Una(), b.Len(), b.Room()
	if x := b.Write(s); x != n {
		t.Fatalf("Write(%d bytes): %d, not %d", len(s), x, n)
	}
	wantState(t, b, una, length+n, room-n)
}

// wantAck holds that n bytes go: the number is that of the first one left, if it is any.
func wantAck(t *testing.T, b *sbuf.Buf, number uint32, n int) {
	t.Helper()
	una, length, room := b.Una(), b.Len(), b.Room()
	if x := b.Ack(number); x != n {
		t.Fatalf("Ack(%d): %d, not %d", number, x, n)
	}
	wantState(t, b, una+uint32(n), length-n, room+n)
}

func wantGet(t *testing.T, b *sbuf.Buf, seq uint32, n int, want string) {
	t.Helper()
	una, length, room := b.Una(), b.Len(), b.Room()
	if s := b.Get(seq, n); s != want {
		t.Fatalf("Get(%d, %d): %q, not %q", seq, n, s, want)
	}
	wantState(t, b, una, length, room)
}

// wantAll holds that there is want, and nothing ahead of it or behind.
func wantAll(t *testing.T, b *sbuf.Buf, want string) {
	t.Helper()
	una := b.Una()
	wantGet(t, b, una, math.MaxInt, want)
	for i := range len(want) {
		wantGet(t, b, una+uint32(i), 1, want[i:i+1])
	}
	wantGet(t, b, una-1, math.MaxInt, "")
	wantGet(t, b, una+uint32(len(want)), math.MaxInt, "")
}

// The chapter's examples

func TestExamples(t *testing.T) {
	b := made(t, 4294967294, 5)
	wantWrite(t, b, "abcdefg", 5)
	wantState(t, b, 4294967294, 5, 0)
	if n := b.End(); n != 3 {
		t.Fatal("End", n)
	}
	wantGet(t, b, 4294967295, 2, "bc")
	wantGet(t, b, 2, 9, "e")
	wantGet(t, b, 3, 1, "")
	wantAck(t, b, 1, 3)
	wantState(t, b, 1, 2, 3)
	wantGet(t, b, 0, 1, "")

	wantAck(t, b, 1, 0)
	wantAck(t, b, 4, 0)
	wantWrite(t, b, "hij", 3)
	wantGet(t, b, 1, 9, "dehij")
	wantState(t, b, 1, 5, 0)
}

// P13.1

func TestNewRefuses(t *testing.T) {
	for _, room := range []int{
		0, -1, -2, -8, -2048, -2049, 2049, 2050, 4096, 65535, 65536, 1<<31 - 1, 1 << 31, 1<<32 - 1, 1 << 32, 1<<32 + 1, 1<<32 + 2048,
		math.MaxInt - 1, math.MaxInt, math.MinInt, math.MinInt + 1, math.MinInt + 2048,
	} {
		for _, una := range starts() {
			if b, e := sbuf.New(una, room); b != nil || e != api.ErrArg {
				t.Errorf("New(%d, %d): %v, %d", una, room, b, e)
			}
		}
	}
}

func TestNewOfEachRoom(t *testing.T) {
	for room := 1; room <= api.Room; room++ {
		b := made(t, uint32(room), room)
		wantGet(t, b, uint32(room), 1, "")
		wantWrite(t, b, text(room+1), room)
		wantWrite(t, b, "x", 0)
		wantGet(t, b, uint32(room), math.MaxInt, text(room))
	}
}

func TestNewAtEachStart(t *testing.T) {
	for _, una := range starts() {
		for _, room := range []int{1, 2, 2047, 2048} {
			b := made(t, una, room)
			wantAll(t, b, "")
			wantAck(t, b, una, 0)
			wantAck(t, b, una+1, 0)
			wantWrite(t, b, "a", 1)
			wantAll(t, b, "a")
		}
	}
}

// P13.4

func TestNone(t *testing.T) {
	for name, b := range map[string]*sbuf.Buf{"nil": nil, "zero": {}, "new": new(sbuf.Buf)} {
		for _, s := range []string{"", "a", "ab", text(2048), text(2049)} {
			if n := b.Write(s); n != 0 {
				t.Fatalf("%s: Write(%d bytes): %d", name, len(s), n)
			}
			wantState(t, b, 0, 0, 0)
			for _, number := range starts() {
				wantAck(t, b, number, 0)
				for _, n := range []int{math.MinInt, -1, 0, 1, 2048, math.MaxInt} {
					wantGet(t, b, number, n, "")
				}
			}
		}
	}
}

// A copy of what New made is none, and does nothing to what New made.
func TestCopyIsNone(t *testing.T) {
	b := filled(t, 10, 8, "abcd")
	c := *b
	wantState(t, &c, 0, 0, 0)
	wantWrite(t, &c, "XYZ", 0)
	wantAck(t, &c, 12, 0)
	wantAck(t, &c, 1, 0)
	wantGet(t, &c, 10, 9, "")
	wantGet(t, &c, 0, 9, "")
	wantState(t, b, 10, 4, 4)
	wantWrite(t, b, "ef", 2)
	wantAll(t, b, "abcdef")
	wantState(t, &c, 0, 0, 0)
}

func TestWhatTellsChangesNothing(t *testing.T) {
	for _, una := range starts() {
		b := filled(t, una, 8, "abcd")
		wantAck(t, b, una+1, 1)
		for range 5 {
			wantState(t, b, una+1, 3, 5)
			wantAll(t, b, "bcd")
		}
		wantWrite(t, b, "efghijk", 5)
		wantAll(t, b, "bcdefghi")
	}
}

// R3

func TestBuffersAreApart(t *testing.T) {
	b, c := made(t, 10, 8), made(t, 10, 8)
	wantWrite(t, b, "abcd", 4)
	wantState(t, c, 10, 0, 8)
	wantAll(t, c, "")
	wantWrite(t, c, "WXYZ", 4)
	wantAll(t, b, "abcd")
	wantAck(t, b, 12, 2)
	wantAll(t, c, "WXYZ")
	wantWrite(t, b, "efghijk", 6)
	wantAck(t, c, 14, 4)
	wantAll(t, b, "cdefghij")
	wantState(t, c, 14, 0, 8)
	wantWrite(t, c, "V", 1)
	wantAll(t, b, "cdefghij")
	wantAll(t, c, "V")
}

func TestManyBuffersAreApart(t *testing.T) {
	const many = 64
	l := make([]*sbuf.Buf, many)
	for i := range l {
		l[i] = made(t, uint32(i), 1+i)
	}
	for at := range 3 * many {
		for i, b := range l {
			if at > i {
				wantAck(t, b, b.Una()+1, 1)
			}
			wantWrite(t, b, text(at + i + 1)[at+i:], 1)
		}
	}
	for i, b := range l {
		first := 3*many - 1 - i
		wantState(t, b, uint32(i+first), 1+i, 0)
		wantAll(t, b, text(first + i + 1 + i)[first+i:])
	}
}

func TestTheSameCallsAreAnsweredAlike(t *testing.T) {
	first := ""
	for range 3 {
		b, told := made(t, 1<<32-30, 40), ""
		for i := range 200 {
			told += string(rune('0'+b.Write(text(i)[i/2:]))) + string(rune('0'+b.Ack(b.Una()+uint32(i*7%23)))) + b.Get(b.End()-9, i%11)
		}
		if first == "" {
			first = told
		}
		if told != first {
			t.Fatalf("%q, and then %q", first, told)
		}
	}
}
