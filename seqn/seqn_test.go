package seqn_test

import (
	"math"
	"testing"

	"blockyard/seqn"
)

// around is how many numbers there are till they come round.
const around = 1 << 32

// edges are the numbers at which something may go round, or be too far.
func edges() []uint32 {
	return []uint32{0, 1, 1<<31 - 1, 1 << 31, 1<<31 + 1, 1<<32 - 1}
}

// near are the edges and what lies beside them, and some numbers amid them.
func near() []uint32 {
	var l []uint32
	for _, x := range edges() {
		l = append(l, x-2, x-1, x, x+1, x+2)
	}
	return append(l, 9, 1000, 1<<16, 1<<30, 3<<30, 0x12345678, 0xedcba987)
}

// widths are windows' sizes: the wrong ones, the edges, and some amid them.
func widths() []int {
	return []int{
		math.MinInt, math.MinInt + 1, -around - 1, -around, -around + 1, -1 << 31, -2, -1,
		0, 1, 2, 3, 9, 1<<16 - 1, 1 << 16, 1<<31 - 1, 1 << 31, 1<<31 + 1,
		around - 2, around - 1, around, around + 1, 2 * around, math.MaxInt - 1, math.MaxInt,
	}
}

// plainAhead is the number from 0 to 2^32 - 1 that, added to a, is b, modulo 2^32.
func plainAhead(a, b uint32) int {
	far := int(b) - int(a)
	if far < 0 {
		far += around
	}
	return far
}

// plainLess is by which of the two is the greater one, and by how much.
func plainLess(a, b uint32) bool {
	if a < b {
		return int(b)-int(a) <= 1<<31-1
	}
	return int(a)-int(b) >= around-(1<<31-1)
}

// plainIn is by where the window's first and last number lie.
func plainIn(x, from uint32, n int) bool {
	if n <= 0 {
		return false
	}
	if n >= around {
		return true
	}
	end := int(from) + n
	return int(x) >= int(from) && int(x) < end || int(x)+around < end
}

func wantAhead(t *testing.T, a, b uint32, far int) {
	t.Helper()
	if x := seqn.Ahead(a, b); x != far {
		t.Errorf("Ahead(%d, %d): %d, not %d", a, b, x, far)
	}
}

func wantLess(t *testing.T, a, b uint32, is bool) {
	t.Helper()
	if x := seqn.Less(a, b); x != is {
		t.Errorf("Less(%d, %d): %v, not %v", a, b, x, is)
	}
}

func wantIn(t *testing.T, x, from uint32, n int, is bool) {
	t.Helper()
	if in := seqn.In(x, from, n); in != is {
		t.Errorf("In(%d, %d, %d): %v, not %v", x, from, n, in, is)
	}
}

// P11.1

func TestTheChaptersNumbers(t *testing.T) {
	wantAhead(t, 5, 3, 4294967294)
	wantLess(t, 4294967295, 2, true)
	wantLess(t, 0, 2147483648, false)
	wantLess(t, 2147483648, 0, false)
	wantIn(t, 2, 4294967295, 4, true)
	wantIn(t, 3, 4294967295, 4, false)
	wantIn(t, 7, 7, 0, false)
}

func TestEachEdgeFromEach(t *testing.T) {
	const h = 1 << 31
	far := [6][6]int{
		{0, 1, h - 1, h, h + 1, around - 1},
		{around - 1, 0, h - 2, h - 1, h, around - 2},
		{h + 1, h + 2, 0, 1, 2, h},
		{h, h + 1, around - 1, 0, 1, h - 1},
		{h - 1, h, around - 2, around - 1, 0, h - 2},
		{1, 2, h, h + 1, h + 2, 0},
	}
	for i, a := range edges() {
		for k, b := range edges() {
			wantAhead(t, a, b, far[i][k])
			wantLess(t, a, b, far[i][k] >= 1 && far[i][k] <= h-1)
		}
	}
}

func TestOneIsNotAheadOfItself(t *testing.T) {
	for _, a := range near() {
		wantAhead(t, a, a, 0)
		wantLess(t, a, a, false)
	}
}

func TestAheadAddedIsTheOtherOne(t *testing.T) {
	for _, a := range near() {
		for _, b := range near() {
			far := seqn.Ahead(a, b)
			if far < 0 || far > around-1 || uint32((int(a)+far)%around) != b {
				t.Errorf("Ahead(%d, %d): %d", a, b, far)
			}
			wantAhead(t, a, b, plainAhead(a, b))
			wantLess(t, a, b, plainLess(a, b))
		}
	}
}

func TestLessAtItsEnds(t *testing.T) {
	for _, a := range near() {
		wantLess(t, a, a-1, false)
		wantLess(t, a, a+1, true)
		wantLess(t, a, a+2, true)
		wantLess(t, a, a+(1<<31-2), true)
		wantLess(t, a, a+(1<<31-1), true)
		wantLess(t, a, a+1<<31, false)
		wantLess(t, a, a+(1<<31+1), false)
	}
}

func TestTheEndsOfWindows(t *testing.T) {
	for _, from := range near() {
		for _, n := range []int{1, 2, 3, 9, 1<<16 - 1, 1<<31 - 1, 1 << 31, 1<<31 + 1, around - 2, around - 1} {
			wantIn(t, from, from, n, true)
			wantIn(t, from+uint32(n-1), from, n, true)
			wantIn(t, from+uint32(n), from, n, false)
			wantIn(t, from-1, from, n, false)
		}
		for _, n := range []int{around, around + 1, 1 << 40, math.MaxInt - 1, math.MaxInt} {
			wantIn(t, from, from, n, true)
			wantIn(t, from+1, from, n, true)
			wantIn(t, from+1<<31, from, n, true)
			wantIn(t, from-1, from, n, true)
		}
	}
}

func TestNothingIsInsideNoNumbers(t *testing.T) {
	for _, from := range near() {
		for _, x := range near() {
			for _, n := range []int{0, -1, -2, -1 << 31, -around, -around - 1, math.MinInt + 1, math.MinInt} {
				wantIn(t, x, from, n, false)
			}
			wantIn(t, x, from, 1, x == from)
		}
	}
}

func TestInEveryWindowNearTheEdges(t *testing.T) {
	for _, from := range near() {
		for _, x := range near() {
			for _, n := range widths() {
				wantIn(t, x, from, n, plainIn(x, from, n))
			}
		}
	}
}

func TestJustTheWindowsNumbersAreInside(t *testing.T) {
	for _, from := range near() {
		for n := range 20 {
			for i := -20; i < 40; i++ {
				wantIn(t, from+uint32(i), from, n, i >= 0 && i < n)
			}
		}
	}
}
