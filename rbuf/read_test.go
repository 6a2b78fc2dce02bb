package rbuf_test

import (
	"math"
	"testing"
)

// P12.3

func TestReadOfNone(t *testing.T) {
	for _, next := range starts() {
		b := made(t, next, 8)
		wantPut(t, b, next+1, "XY", 0, 2)
		for _, n := range []int{math.MinInt, math.MinInt + 1, -1 << 32, -2048, -2, -1, 0, 1, 2, 8, 9, 2048, 1 << 32, math.MaxInt - 1, math.MaxInt} {
			wantRead(t, b, n, "")
		}
		wantPut(t, b, next, "a", 3, 0)
		for _, n := range []int{math.MinInt, math.MinInt + 1, math.MinInt + 2, -1<<32 + 1, -1 << 31, -3, -2, -1, 0} {
			wantRead(t, b, n, "")
		}
		wantAll(t, b, "aXY")
	}
}

func TestReadOfEachNumber(t *testing.T) {
	for _, next := range starts() {
		for _, n := range []int{1, 2, 3, 4, 5, 6, 7, 8, 9, 2048, 2049, 1 << 31, 1 << 32, 1<<32 + 1, math.MaxInt - 1, math.MaxInt} {
			b := made(t, next, 8)
			wantPut(t, b, next, "abcde", 5, 0)
			wantPut(t, b, next+6, "g", 0, 1)
			first := min(n, 5)
			wantRead(t, b, n, "abcde"[:first])
			wantState(t, b, 5-first, 1, next+5, 3+first)
			wantPut(t, b, next+5, "f", 2, 0)
			wantAll(t, b, "abcdefg"[first:])
		}
	}
}

func TestReadOneByOne(t *testing.T) {
	for _, next := range starts() {
		for _, room := range []int{1, 2, 100, 2048} {
			b := made(t, next, room)
			wantPut(t, b, next, text(room), room, 0)
			for i := range room {
				wantState(t, b, room-i, 0, next+uint32(room), i)
				wantRead(t, b, 1, text(room)[i:i+1])
			}
			wantRead(t, b, 1, "")
		}
	}
}

func TestReadOfAsManyAsAreReadyAndOneMore(t *testing.T) {
	for _, room := range []int{1, 2, 100, 2047, 2048} {
		for _, more := range []int{-1, 0, 1, 2} {
			b := made(t, 1<<32-7, room)
			wantPut(t, b, 1<<32-7, text(room), room, 0)
			n := min(room+more, room)
			wantRead(t, b, room+more, text(room)[:n])
			wantAll(t, b, text(room)[n:])
		}
	}
}

// What is held is not read, and what is read can't be put again.
func TestReadUpToAGap(t *testing.T) {
	for _, next := range starts() {
		b := made(t, next, 10)
		wantPut(t, b, next+4, "ef", 0, 2)
		wantPut(t, b, next+7, "h", 0, 3)
		wantPut(t, b, next, "abc", 3, 3)
		wantAll(t, b, "abc")
		wantState(t, b, 0, 3, next+3, 10)
		wantPut(t, b, next, "abc", 0, 3)
		wantPut(t, b, next+3, "d", 3, 1)
		wantAll(t, b, "def")
		wantPut(t, b, next+6, "g", 2, 0)
		wantAll(t, b, "gh")
	}
}

func TestReadOpensTheWindow(t *testing.T) {
	for _, next := range starts() {
		for _, room := range []int{1, 2, 3, 8, 2048} {
			for _, n := range []int{1, 2, room - 1, room, room + 1} {
				b := made(t, next, room)
				wantPut(t, b, next, text(room), room, 0)
				end := next + uint32(room)
				wantPut(t, b, end, "X", 0, 0)
				open := max(0, min(n, room))
				wantRead(t, b, n, text(room)[:open])
				wantState(t, b, room-open, 0, end, open)
				wantPut(t, b, end+uint32(open), "X", 0, 0)
				wantPut(t, b, end, text(2 * room)[room:], open, 0)
				wantState(t, b, room, 0, end+uint32(open), 0)
				wantAll(t, b, text(room + open)[open:])
			}
		}
	}
}

// What moves up behind a Read is still held under its own numbers.
func TestReadWithBytesHeld(t *testing.T) {
	for _, next := range starts() {
		b := made(t, next, 8)
		wantPut(t, b, next, "abc", 3, 0)
		wantPut(t, b, next+4, "e", 0, 1)
		wantPut(t, b, next+7, "h", 0, 2)
		wantPut(t, b, next+8, "i", 0, 2)
		wantRead(t, b, 2, "ab")
		wantPut(t, b, next+9, "jk", 0, 3)
		wantPut(t, b, next+8, "i", 0, 4)
		wantPut(t, b, next+4, "XXXXXX", 0, 6)
		wantPut(t, b, next+3, "d", 7, 0)
		wantState(t, b, 8, 0, next+10, 0)
		wantAll(t, b, "cdeXXhij")
	}
}

// The room that a Read makes has nothing in it.
func TestReadLeavesNothingBehind(t *testing.T) {
	for _, next := range starts() {
		for n := 1; n <= 8; n++ {
			b := made(t, next, 8)
			wantPut(t, b, next, "abcdefgh", 8, 0)
			wantRead(t, b, n, "abcdefgh"[:n])
			at := next + 8
			for i := n - 1; i > 0; i-- {
				wantPut(t, b, at+uint32(i), "ABCDEFGH"[i:i+1], 0, n-i)
			}
			wantPut(t, b, at, "A", n, 0)
			wantAll(t, b, "abcdefgh"[n:]+"ABCDEFGH"[:n])
		}
	}
}

// A text that was read stays as it was, whatever comes.
func TestWhatWasReadStays(t *testing.T) {
	b := made(t, 1<<32-20, 16)
	var told []string
	for i := range 50 {
		b.Put(b.Next(), text(16 * (i + 1))[16*i:])
		told = append(told, b.Read(7), b.Read(99))
		b.Put(b.Next()+1, other(text(9)))
		b.Put(b.Next(), "z")
		b.Read(99)
	}
	for i := range 50 {
		want := text(16 * (i + 1))[16*i:]
		if told[2*i] != want[:7] || told[2*i+1] != want[7:] {
			t.Fatalf("%d: %q and %q, not %q", i, told[2*i], told[2*i+1], want)
		}
	}
}

func TestWhatTellsChangesNothing(t *testing.T) {
	b := made(t, 10, 8)
	wantPut(t, b, 10, "ab", 2, 0)
	wantPut(t, b, 13, "d", 0, 1)
	for range 5 {
		wantState(t, b, 2, 1, 12, 6)
		wantRead(t, b, 0, "")
		wantRead(t, b, -1, "")
	}
	wantPut(t, b, 12, "c", 2, 0)
	wantAll(t, b, "abcd")
}

func TestNextGoesRound(t *testing.T) {
	for by := range uint32(20) {
		start := 1<<32 - 1 - by
		b := made(t, start, 12)
		wantPut(t, b, start+4, "efghijkl", 0, 8)
		wantPut(t, b, start, "ab", 2, 8)
		wantPut(t, b, start+2, "cd", 10, 0)
		if b.Next() != 11-by {
			t.Fatalf("Next %d, from %d on", b.Next(), start)
		}
		wantAll(t, b, "abcdefghijkl")
		wantState(t, b, 0, 0, 11-by, 12)
	}
}
