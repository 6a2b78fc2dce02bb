package seqn_test

import (
	"math"
	"testing"

	"blockyard/seqn"
)

func wantMay(t *testing.T, seq uint32, length int, next uint32, window int, may bool) {
	t.Helper()
	if x := seqn.May(seq, length, next, window); x != may {
		t.Errorf("May(%d, %d, %d, %d): %v, not %v", seq, length, next, window, x, may)
	}
}

// plainMay is by the promise's words, one by one, with the plain window.
func plainMay(seq uint32, length int, next uint32, window int) bool {
	length, window = max(length, 0), max(window, 0)
	switch {
	case length == 0 && window == 0:
		return seq == next
	case length == 0:
		return plainIn(seq, next, window)
	case window == 0:
		return false
	}
	last := (int(seq) + (length-1)%around) % around
	return plainIn(seq, next, window) || plainIn(uint32(last), next, window)
}

// none are the numbers that count as no length, or as a shut window.
func none() []int {
	return []int{0, -1, -2, -9, -1 << 31, -around, -around - 1, math.MinInt + 1, math.MinInt}
}

// P11.2

func TestTheChaptersSegments(t *testing.T) {
	wantMay(t, 9, 0, 9, 0, true)
	wantMay(t, 9, 1, 9, 0, false)
	wantMay(t, 8, 2, 9, 5, true)
	wantMay(t, 5, 4, 9, 5, false)
	wantMay(t, 13, 9, 9, 5, true)
}

func TestWithoutALengthAtAShutWindow(t *testing.T) {
	for _, next := range near() {
		for _, length := range none() {
			for _, window := range none() {
				wantMay(t, next, length, next, window, true)
				wantMay(t, next+1, length, next, window, false)
				wantMay(t, next-1, length, next, window, false)
				wantMay(t, next+1<<31, length, next, window, false)
			}
		}
	}
}

func TestWithoutALengthInAWindow(t *testing.T) {
	for _, next := range near() {
		for _, length := range none() {
			for _, window := range []int{1, 2, 5, 1 << 16, 1 << 31, around - 1} {
				wantMay(t, next, length, next, window, true)
				wantMay(t, next-1, length, next, window, false)
				wantMay(t, next+uint32(window-1), length, next, window, true)
				wantMay(t, next+uint32(window), length, next, window, false)
			}
			wantMay(t, next-1, length, next, around, true)
			wantMay(t, next-1, length, next, math.MaxInt, true)
		}
	}
}

func TestWithALengthAtAShutWindow(t *testing.T) {
	for _, next := range near() {
		for _, length := range []int{1, 2, 5, 1 << 16, 1 << 31, around - 1, around, around + 1, math.MaxInt} {
			for _, window := range none() {
				wantMay(t, next, length, next, window, false)
				wantMay(t, next+1, length, next, window, false)
				wantMay(t, next-1, length, next, window, false)
				wantMay(t, next-uint32(length-1), length, next, window, false)
			}
		}
	}
}

func TestOfOneNumber(t *testing.T) {
	for _, next := range near() {
		for _, window := range []int{1, 2, 5, 1 << 16, 1 << 31, around - 1} {
			wantMay(t, next, 1, next, window, true)
			wantMay(t, next-1, 1, next, window, false)
			wantMay(t, next+uint32(window-1), 1, next, window, true)
			wantMay(t, next+uint32(window), 1, next, window, false)
		}
	}
}

func TestThatBeginAheadOfTheWindow(t *testing.T) {
	for _, next := range near() {
		for _, before := range []uint32{1, 2, 3, 9, 1000} {
			seq := next - before
			length := int(before)
			for _, window := range []int{1, 2, 5, 1 << 16} {
				wantMay(t, seq, length-1, next, window, false)
				wantMay(t, seq, length, next, window, false)          // its last is one ahead of the first
				wantMay(t, seq, length+1, next, window, true)         // its last is the window's first
				wantMay(t, seq, length+window, next, window, true)    // its last is the window's last
				wantMay(t, seq, length+window+1, next, window, false) // it is over the window on both sides
			}
		}
	}
}

func TestThatBeginInsideTheWindow(t *testing.T) {
	for _, next := range near() {
		for _, window := range []int{1, 2, 5, 1 << 16} {
			for _, in := range []int{0, window / 2, window - 1} {
				seq := next + uint32(in)
				wantMay(t, seq, 1, next, window, true)
				wantMay(t, seq, window-in, next, window, true)   // its last is the window's last
				wantMay(t, seq, window-in+1, next, window, true) // one is behind it
				wantMay(t, seq, window+9, next, window, true)    // it is longer than the window
			}
		}
	}
}

func TestThatBeginBehindTheWindow(t *testing.T) {
	for _, next := range near() {
		for _, window := range []int{1, 2, 5, 1 << 16} {
			for _, behind := range []int{0, 1, 7} {
				seq := next + uint32(window+behind)
				wantMay(t, seq, 1, next, window, false)
				wantMay(t, seq, 9, next, window, false)
				wantMay(t, seq, 1<<20, next, window, false)
				wantMay(t, seq, around-window-behind, next, window, false)  // its last is one ahead of the first
				wantMay(t, seq, around-window-behind+1, next, window, true) // it goes round to the first
			}
		}
	}
}

func TestLengthsThatGoRound(t *testing.T) {
	for _, next := range near() {
		wantMay(t, next-1, around, next, 5, false) // its last is one ahead of where it begins
		wantMay(t, next+5, around, next, 5, true)  // the window's last
		wantMay(t, next-1, around+1, next, 5, false)
		wantMay(t, next-1, around+2, next, 5, true)
		wantMay(t, next-1, 2*around+2, next, 5, true)
		wantMay(t, next-1, 2*around+7, next, 5, false)
		wantMay(t, next+2, math.MaxInt, next, 5, true) // its last is two ahead of where it begins
		wantMay(t, next+1, math.MaxInt, next, 1, false)
		wantMay(t, next+3, math.MaxInt, next, 2, true)
		wantMay(t, next+3, math.MaxInt, next, 1, false)
	}
}

func TestEverySegmentNearASmallWindow(t *testing.T) {
	for _, next := range near() {
		for window := -1; window < 6; window++ {
			for at := -9; at < 12; at++ {
				for length := -1; length < 20; length++ {
					seq := next + uint32(at)
					first := at >= 0 && at < window
					last := at+length-1 >= 0 && at+length-1 < window
					may := first || last
					if length <= 0 {
						may = first || window <= 0 && at == 0
					}
					wantMay(t, seq, length, next, window, may)
				}
			}
		}
	}
}

func TestEverySegmentNearTheEdges(t *testing.T) {
	for _, next := range edges() {
		for _, seq := range near() {
			for _, length := range widths() {
				for _, window := range widths() {
					wantMay(t, seq, length, next, window, plainMay(seq, length, next, window))
				}
			}
		}
	}
}
