package rbuf_test

import (
	"math"
	"testing"
	"unsafe"

	"blockyard/api"
)

// P12.2: where data begin, and how long they are

func TestPutOfNothing(t *testing.T) {
	for _, next := range starts() {
		b := made(t, next, 8)
		for i := -20; i < 20; i++ {
			wantPut(t, b, next+uint32(i), "", 0, 0)
		}
		wantPut(t, b, next+1<<31, "", 0, 0)
		wantPut(t, b, next+2, "c", 0, 1)
		wantPut(t, b, next, "", 0, 1)
		wantPut(t, b, next+2, "", 0, 1)
		wantPut(t, b, next, "ab", 3, 0)
		wantPut(t, b, next+3, "", 0, 0)
		wantAll(t, b, "abc")
	}
}

func TestPutOfOneByteAtEachNumber(t *testing.T) {
	for _, next := range starts() {
		for i := -20; i < 40; i++ {
			b := made(t, next, 9)
			switch {
			case i == 0:
				wantPut(t, b, next, "x", 1, 0)
				wantAll(t, b, "x")
			case i > 0 && i < 9:
				wantPut(t, b, next+uint32(i), "x", 0, 1)
				wantAll(t, b, "")
			default:
				wantPut(t, b, next+uint32(i), "x", 0, 0)
				wantPut(t, b, next, "abcdefghi", 9, 0)
				wantAll(t, b, "abcdefghi")
			}
		}
	}
}

// Numbers that are far off are not inside, from whatever side they are looked at.
func TestPutFarOff(t *testing.T) {
	for _, next := range starts() {
		b := made(t, next, api.Room)
		for _, by := range []uint32{1 << 11, 1<<11 + 1, 1 << 12, 1 << 16, 1<<16 + 1, 1<<31 - 1, 1 << 31, 1<<31 + 1, 3 << 30, 1<<32 - 1<<16, 1<<32 - 1<<11, 1<<32 - 1} {
			wantPut(t, b, next+by, "x", 0, 0)
		}
		wantAll(t, b, "")
	}
}

func TestPutOfEachLength(t *testing.T) {
	for _, next := range starts() {
		for _, room := range []int{1, 2, 7, 8, 536, 2047, 2048} {
			for _, n := range []int{1, room - 1, room, room + 1, 2047, 2048, 2049, 1<<16 - 1, 1 << 16, 1<<16 + 1, 1 << 17} {
				b := made(t, next, room)
				fit := min(n, room)
				wantPut(t, b, next, text(n), fit, 0)
				wantState(t, b, fit, 0, next+uint32(fit), room-fit)
				wantAll(t, b, text(fit))
			}
		}
	}
}

// The same, but that the first byte lacks: it comes behind them, and with it all are ready.
func TestPutOfEachLengthBehindAGap(t *testing.T) {
	for _, next := range starts() {
		for _, room := range []int{2, 3, 8, 536, 2047, 2048} {
			for _, n := range []int{1, room - 2, room - 1, room, room + 1, 2048, 1 << 16, 1 << 17} {
				b := made(t, next, room)
				fit := min(n, room-1)
				wantPut(t, b, next+1, text(n + 1)[1:], 0, fit)
				wantPut(t, b, next, text(1), fit+1, 0)
				wantAll(t, b, text(fit+1))
			}
		}
	}
}

// Every place and every length around a small window, when two bytes are ready and not read.
func TestPutOfEachPieceAroundAWindow(t *testing.T) {
	const room, ready = 7, 2
	const window = room - ready
	for _, next := range starts() {
		for from := -12; from < 12; from++ {
			for n := range 30 {
				b := made(t, next-ready, room)
				wantPut(t, b, next-ready, "ab", ready, 0)
				first, end := max(from, 0), min(from+n, window)
				inside := max(end-first, 0)
				data := text(n)
				if first > 0 {
					wantPut(t, b, next+uint32(from), data, 0, inside)
					wantAll(t, b, "ab")
					continue
				}
				wantPut(t, b, next+uint32(from), data, inside, 0)
				if inside == 0 {
					wantAll(t, b, "ab")
				} else {
					wantAll(t, b, "ab"+data[-from:-from+inside])
				}
			}
		}
	}
}

func TestPutAheadOfNext(t *testing.T) {
	for _, next := range starts() {
		b := made(t, next, 8)
		wantPut(t, b, next-3, "xyz", 0, 0)
		wantPut(t, b, next-4, "xyz", 0, 0)
		wantPut(t, b, next-3, "xyza", 1, 0)
		wantPut(t, b, next-1, "XXb", 1, 0)
		wantPut(t, b, next, "XX", 0, 0)
		wantPut(t, b, next, "XXcdefghijkl", 6, 0)
		wantAll(t, b, "abcdefgh")
	}
}

func TestPutAtTheWindowsEnd(t *testing.T) {
	for _, next := range starts() {
		for _, room := range []int{2, 3, 8, 2047, 2048} {
			b := made(t, next, room)
			end := next + uint32(room)
			wantPut(t, b, end, "x", 0, 0)
			wantPut(t, b, end, text(1<<16), 0, 0)
			wantPut(t, b, end-1, "zxy", 0, 1)
			wantPut(t, b, end-1, "Z", 0, 1)
			wantPut(t, b, next, text(room-1), room, 0)
			wantAll(t, b, text(room-1)+"z")
		}
	}
}

// P12.2: the first 2^16 bytes

// long are n bytes: the first 2^16 are x, those behind them y.
func long(n int) string {
	b := make([]byte, n)
	for i := range b {
		b[i] = 'x'
		if i >= 1<<16 {
			b[i] = 'y'
		}
	}
	return string(b)
}

func TestOnlyTheFirstBytesCount(t *testing.T) {
	const count = 1 << 16
	for _, next := range starts() {
		for _, over := range []int{0, 1, 2, 100, 2048, 1 << 16, 1 << 18} {
			data := long(count + over)
			b := made(t, next, 2048)
			wantPut(t, b, next-count, data, 0, 0)
			wantPut(t, b, next-count-1, data, 0, 0)
			wantPut(t, b, next-count-2048, data, 0, 0)
			wantPut(t, b, next-count+1, data, 1, 0)
			wantPut(t, b, next-count+3, data, 2, 0)
			wantAll(t, b, "xxx")
		}
	}
}

func TestTheFirstBytesEndInsideTheWindow(t *testing.T) {
	const count = 1 << 16
	for _, next := range starts() {
		for _, inside := range []int{0, 1, 2, 2047, 2048, 2049, 4000} {
			b := made(t, next, 2048)
			fit := min(inside, 2048)
			wantPut(t, b, next-count+uint32(inside), long(count+5000), fit, 0)
			wantAll(t, b, long(fit))
		}
	}
}

func TestTheFirstBytesOfALongTextAreTaken(t *testing.T) {
	b := made(t, 0, 2048)
	wantPut(t, b, 0, text(1<<22), 2048, 0)
	wantAll(t, b, text(2048))
	wantPut(t, b, 2048, text(1 << 22)[2048:], 2048, 0)
	wantAll(t, b, text(4096)[2048:])
}

// P12.2: gaps

func TestPutIntoAGap(t *testing.T) {
	for _, next := range starts() {
		b := made(t, next, 12)
		wantPut(t, b, next+3, "def", 0, 3)
		wantPut(t, b, next+1, "b", 0, 4)
		wantPut(t, b, next+2, "c", 0, 5)
		wantPut(t, b, next, "a", 6, 0)
		wantAll(t, b, "abcdef")
	}
}

func TestPutIntoOneOfTwoGaps(t *testing.T) {
	for _, next := range starts() {
		b := made(t, next, 12)
		wantPut(t, b, next+2, "cd", 0, 2)
		wantPut(t, b, next+6, "gh", 0, 4)
		wantPut(t, b, next, "ab", 4, 2)
		wantPut(t, b, next+5, "f", 0, 3)
		wantPut(t, b, next+4, "e", 4, 0)
		wantAll(t, b, "abcdefgh")

		b = made(t, next, 12)
		wantPut(t, b, next+2, "cd", 0, 2)
		wantPut(t, b, next+6, "gh", 0, 4)
		wantPut(t, b, next+4, "ef", 0, 6)
		wantPut(t, b, next, "a", 1, 6)
		wantPut(t, b, next+1, "b", 7, 0)
		wantAll(t, b, "abcdefgh")
	}
}

func TestPutOverAllGaps(t *testing.T) {
	for _, next := range starts() {
		b := made(t, next, 12)
		for _, i := range []uint32{10, 2, 8, 4, 6} {
			wantPut(t, b, next+i, text(12)[i:i+1], 0, b.Held()+1)
		}
		wantPut(t, b, next-5, "XXXXX"+text(12)+"XXX", 12, 0)
		wantAll(t, b, text(12))
	}
}

// Held bytes stay what they were, whatever stands at their numbers later.
func TestWhatIsHeldStays(t *testing.T) {
	for _, next := range starts() {
		b := made(t, next, 12)
		wantPut(t, b, next+4, "EFG", 0, 3)
		wantPut(t, b, next+4, "xyz", 0, 3)
		wantPut(t, b, next+2, "CDxy", 0, 5)   // over its first two
		wantPut(t, b, next+6, "zHI", 0, 7)    // over its last one
		wantPut(t, b, next+3, "xxxxxx", 0, 7) // inside
		wantPut(t, b, next+1, "Bxxxxxxxxx", 0, 10)
		wantPut(t, b, next, "Axxxxxxxxxxx", 12, 0)
		wantAll(t, b, "ABCDEFGHIxxx")
	}
}

// The same data twice change nothing the second time, be they held, ready or read.
func TestPutTwice(t *testing.T) {
	for _, next := range starts() {
		b := made(t, next, 8)
		for range 3 {
			wantPut(t, b, next+2, "cd", 0, 2)
		}
		wantPut(t, b, next, "ab", 4, 0)
		for range 3 {
			wantPut(t, b, next, "ab", 0, 0)
			wantPut(t, b, next+2, "cd", 0, 0)
			wantPut(t, b, next, "XXXX", 0, 0)
		}
		wantRead(t, b, 3, "abc")
		for range 3 {
			wantPut(t, b, next, "abcd", 0, 0)
			wantPut(t, b, next, "XXXX", 0, 0)
		}
		wantAll(t, b, "d")
		wantPut(t, b, next, "abcd", 0, 0)
		wantAll(t, b, "")
	}
}

// Bytes are bytes: a nought is held as any other one is.
func TestPutOfEachByte(t *testing.T) {
	for x := range 256 {
		s := string([]byte{byte(x)})
		b := made(t, 7, 4)
		wantPut(t, b, 9, s, 0, 1)
		wantPut(t, b, 9, other(s), 0, 1)
		wantPut(t, b, 7, s+s+other(s), 3, 0)
		wantAll(t, b, s+s+s)
	}
}

// What is handed in is not kept: a text whose memory is used for something else behind the call.
func TestPutKeepsNoText(t *testing.T) {
	b, data := made(t, 0, 8), []byte("bcdef")
	wantPut(t, b, 1, unsafe.String(&data[0], 3), 0, 3)
	clear(data)
	wantPut(t, b, 0, "a", 4, 0)
	wantAll(t, b, "abcd")
}

// P12.2: the window's shape

func TestPutIntoAShutWindow(t *testing.T) {
	for _, next := range starts() {
		for _, room := range []int{1, 2, 8, 2048} {
			b := made(t, next, room)
			wantPut(t, b, next, text(room), room, 0)
			wantState(t, b, room, 0, next+uint32(room), 0)
			for i := -3; i < room+3; i++ {
				wantPut(t, b, next+uint32(i), "XY", 0, 0)
			}
			wantPut(t, b, next, text(1<<16), 0, 0)
			wantAll(t, b, text(room))
			wantState(t, b, 0, 0, next+uint32(room), room)
		}
	}
}

// The window is as it was when the call began: what becomes ready makes no room for the bytes behind.
func TestTheWindowDoesNotMoveInACall(t *testing.T) {
	for _, next := range starts() {
		b := made(t, next, 4)
		wantPut(t, b, next+3, "d", 0, 1)
		wantPut(t, b, next, "abcXYZ", 4, 0)
		wantPut(t, b, next+4, "X", 0, 0)
		wantRead(t, b, 2, "ab")
		wantPut(t, b, next+4, "efXYZ", 2, 0)
		wantAll(t, b, "cdef")
	}
}

func TestSmallestRoom(t *testing.T) {
	for _, next := range starts() {
		b := made(t, next, 1)
		for i := range 300 {
			at := next + uint32(i)
			wantPut(t, b, at+1, "X", 0, 0)
			wantPut(t, b, at-1, "X", 0, 0)
			wantPut(t, b, at, text(i + 1)[i:]+"XX", 1, 0)
			wantPut(t, b, at, "X", 0, 0)
			wantPut(t, b, at+1, "X", 0, 0)
			wantRead(t, b, 1+i%2*math.MaxInt32, text(i + 1)[i:])
		}
	}
}
