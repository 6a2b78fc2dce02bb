package rbuf_test

import (
	"math"
	"testing"

	"blockyard/api"
	"blockyard/rbuf"
)

// text is the first n bytes of a stream in which no two stretches are alike that are near one another. Noughts are among them.
func text(n int) string {
	b := make([]byte, n)
	for i := range n {
		b[i] = byte(i*167 + i/251)
	}
	return string(b)
}

// other is as long as s, and unlike it in each byte.
func other(s string) string {
	b := []byte(s)
	for i := range b {
		b[i] ^= 0x5a
	}
	return string(b)
}

// starts are the numbers that streams begin at: the edges, and some from which the numbers go round inside a window.
func starts() []uint32 {
	return []uint32{0, 1, 10, 65535, 1<<31 - 4, 1 << 31, 1<<32 - 2048, 1<<32 - 1000, 1<<32 - 5, 1<<32 - 2, 1<<32 - 1}
}

func made(t *testing.T, next uint32, room int) *rbuf.Buf {
	t.Helper()
	b, e := rbuf.New(next, room)
	if e != api.OK || b == nil {
		t.Fatalf("New(%d, %d): %v, %d", next, room, b, e)
	}
	wantState(t, b, 0, 0, next, room)
	return b
}

func wantState(t *testing.T, b *rbuf.Buf, ready, held int, next uint32, window int) {
	t.Helper()
	if b.Ready() != ready || b.Held() != held || b.Next() != next || b.Window() != window {
		t.Fatalf("Ready %d, Held %d, Next %d, Window %d, not %d, %d, %d, %d", b.Ready(), b.Held(), b.Next(), b.Window(), ready, held, next, window)
	}
}

// wantPut holds that so many bytes become ready, and so many are held then.
func wantPut(t *testing.T, b *rbuf.Buf, seq uint32, data string, n, held int) {
	t.Helper()
	ready, next, window := b.Ready(), b.Next(), b.Window()
	if x := b.Put(seq, data); x != n {
		t.Fatalf("Put(%d, %d bytes): %d, not %d", seq, len(data), x, n)
	}
	wantState(t, b, ready+n, held, next+uint32(n), window-n)
}

func wantRead(t *testing.T, b *rbuf.Buf, n int, want string) {
	t.Helper()
	ready, held, next, window := b.Ready(), b.Held(), b.Next(), b.Window()
	if s := b.Read(n); s != want {
		t.Fatalf("Read(%d): %q, not %q", n, s, want)
	}
	wantState(t, b, ready-len(want), held, next, window+len(want))
}

// wantAll holds that all that is ready is want.
func wantAll(t *testing.T, b *rbuf.Buf, want string) {
	t.Helper()
	wantRead(t, b, math.MaxInt, want)
	wantRead(t, b, math.MaxInt, "")
}

// The chapter's examples

func TestExamples(t *testing.T) {
	b := made(t, 10, 8)
	wantPut(t, b, 12, "cd", 0, 2)
	wantState(t, b, 0, 2, 10, 8)
	wantPut(t, b, 10, "ab", 4, 0)
	wantState(t, b, 4, 0, 14, 4)
	wantRead(t, b, 3, "abc")
	wantState(t, b, 1, 0, 14, 7)
	wantPut(t, b, 14, "efghijkl", 7, 0)
	wantRead(t, b, 99, "defghijk")
	wantPut(t, b, 9, "xyz", 0, 0)
	wantState(t, b, 0, 0, 21, 8)
	wantRead(t, b, 0, "")
}

// P12.1

func TestNewRefuses(t *testing.T) {
	for _, room := range []int{
		0, -1, -2, -8, -2048, -2049, 2049, 2050, 4096, 65535, 65536, 1<<31 - 1, 1 << 31, 1<<32 - 1, 1 << 32, 1<<32 + 1, 1<<32 + 2048,
		math.MaxInt - 1, math.MaxInt, math.MinInt, math.MinInt + 1, math.MinInt + 2048,
	} {
		for _, next := range starts() {
			if b, e := rbuf.New(next, room); b != nil || e != api.ErrArg {
				t.Errorf("New(%d, %d): %v, %d", next, room, b, e)
			}
		}
	}
}

func TestNewOfEachRoom(t *testing.T) {
	for room := 1; room <= api.Room; room++ {
		b := made(t, uint32(room), room)
		wantPut(t, b, uint32(room), text(room+1), room, 0)
		wantAll(t, b, text(room))
	}
}

func TestNewAtEachStart(t *testing.T) {
	for _, next := range starts() {
		for _, room := range []int{1, 2, 2047, 2048} {
			b := made(t, next, room)
			wantRead(t, b, 1, "")
			wantPut(t, b, next, "", 0, 0)
			wantPut(t, b, next-1, "x", 0, 0)
			wantPut(t, b, next+uint32(room), "x", 0, 0)
			wantPut(t, b, next, "a", 1, 0)
			wantAll(t, b, "a")
		}
	}
}

// P12.4

func TestNone(t *testing.T) {
	for name, b := range map[string]*rbuf.Buf{"nil": nil, "zero": {}, "new": new(rbuf.Buf)} {
		for _, seq := range starts() {
			for _, data := range []string{"", "a", "ab", text(2048), text(1 << 16), text(1<<16 + 1)} {
				if n := b.Put(seq, data); n != 0 {
					t.Fatalf("%s: Put(%d, %d bytes): %d", name, seq, len(data), n)
				}
				wantState(t, b, 0, 0, 0, 0)
			}
			for _, n := range []int{math.MinInt, -1, 0, 1, 2048, math.MaxInt} {
				wantRead(t, b, n, "")
			}
		}
	}
}

// A copy of what New made is none, and does nothing to what New made.
func TestCopyIsNone(t *testing.T) {
	b := made(t, 10, 8)
	wantPut(t, b, 10, "ab", 2, 0)
	wantPut(t, b, 13, "d", 0, 1)
	c := *b
	wantState(t, &c, 0, 0, 0, 0)
	wantRead(t, &c, 1, "")
	wantPut(t, &c, 12, "XYZ", 0, 0)
	wantPut(t, &c, 0, "XYZ", 0, 0)
	wantRead(t, &c, 9, "")
	wantState(t, b, 2, 1, 12, 6)
	wantPut(t, b, 12, "c", 2, 0)
	wantAll(t, b, "abcd")
	wantState(t, &c, 0, 0, 0, 0)
}

// R3

func TestBuffersAreApart(t *testing.T) {
	b, c := made(t, 10, 8), made(t, 10, 8)
	wantPut(t, b, 10, "ab", 2, 0)
	wantState(t, c, 0, 0, 10, 8)
	wantPut(t, c, 11, "YZ", 0, 2)
	wantState(t, b, 2, 0, 12, 6)
	wantPut(t, b, 13, "d", 0, 1)
	wantRead(t, b, 1, "a")
	wantPut(t, c, 10, "X", 3, 0)
	wantState(t, b, 1, 1, 12, 7)
	wantAll(t, c, "XYZ")
	wantPut(t, b, 12, "c", 2, 0)
	wantAll(t, b, "bcd")
	wantState(t, c, 0, 0, 13, 8)
}

func TestManyBuffersAreApart(t *testing.T) {
	const many = 64
	l := make([]*rbuf.Buf, many)
	for i := range l {
		l[i] = made(t, uint32(i), 1+i)
	}
	for at := range 3 * many {
		for i, b := range l {
			b.Put(uint32(i+at), text(at + 1)[at:])
		}
		for i, b := range l {
			if b.Ready() != min(at+1, 1+i) {
				t.Fatalf("the buffer %d: Ready %d behind %d bytes", i, b.Ready(), at+1)
			}
		}
	}
	for i, b := range l {
		wantAll(t, b, text(1+i))
	}
}

func TestTheSameCallsAreAnsweredAlike(t *testing.T) {
	first := ""
	for range 3 {
		b, told := made(t, 1<<32-3, 40), ""
		for i := range 200 {
			told += string(rune('0'+b.Put(b.Next()+uint32(i*7%23)-8, text(i)[i/2:]))) + b.Read(i%5)
		}
		if first == "" {
			first = told
		}
		if told != first {
			t.Fatalf("%q, and then %q", first, told)
		}
	}
}
