package seqn_test

import (
	"math/rand"
	"testing"

	"blockyard/seqn"
)

// P11.3

// wantAlike holds all that is asked of the numbers beside what is asked of them when they are moved on by by.
func wantAlike(t *testing.T, a, b uint32, length, window int, by uint32) {
	t.Helper()
	if x, y := seqn.Ahead(a, b), seqn.Ahead(a+by, b+by); x != y {
		t.Errorf("Ahead(%d, %d): %d, but moved on by %d: %d", a, b, x, by, y)
	}
	if x, y := seqn.Less(a, b), seqn.Less(a+by, b+by); x != y {
		t.Errorf("Less(%d, %d): %v, but moved on by %d: %v", a, b, x, by, y)
	}
	if x, y := seqn.In(a, b, window), seqn.In(a+by, b+by, window); x != y {
		t.Errorf("In(%d, %d, %d): %v, but moved on by %d: %v", a, b, window, x, by, y)
	}
	if x, y := seqn.May(a, length, b, window), seqn.May(a+by, length, b+by, window); x != y {
		t.Errorf("May(%d, %d, %d, %d): %v, but moved on by %d: %v", a, length, b, window, x, by, y)
	}
}

func TestMovedOnAlikeNumbersAreAsTheyWere(t *testing.T) {
	for _, a := range near() {
		for _, b := range near() {
			for _, by := range near() {
				for _, n := range []int{-1, 0, 1, 5, 1 << 31, around - 1, around} {
					wantAlike(t, a, b, 5, n, by)
					wantAlike(t, a, b, n, 5, by)
				}
			}
		}
	}
}

func TestMovedOnOverTheLastNumber(t *testing.T) {
	for by := range uint32(40) {
		a, b := 1<<32-20+by, 1<<32-15+by // they go over it one after the other one
		wantAhead(t, a, b, 5)
		wantLess(t, a, b, true)
		wantLess(t, b, a, false)
		wantIn(t, b, a, 6, true)
		wantIn(t, b, a, 5, false)
		wantMay(t, a, 6, b, 1, true)
		wantMay(t, a, 5, b, 1, false)
		wantMay(t, b, 0, a, 6, true)
		wantMay(t, b, 0, a, 5, false)
	}
}

// wantOneAhead asks whether one of two unlike numbers is ahead of the other one, and not the other way about.
func wantOneAhead(t *testing.T, a, b uint32) {
	t.Helper()
	x, y := seqn.Less(a, b), seqn.Less(b, a)
	half := seqn.Ahead(a, b) == 1<<31
	switch {
	case half != (seqn.Ahead(b, a) == 1<<31):
		t.Errorf("%d, %d: it is 2^31 the one way alone", a, b)
	case half && (x || y):
		t.Errorf("%d, %d: it is 2^31, but %v, %v", a, b, x, y)
	case !half && x == y:
		t.Errorf("%d, %d: it is not 2^31, but %v, %v", a, b, x, y)
	}
}

func TestOfTwoOneIsAhead(t *testing.T) {
	for _, a := range near() {
		for _, b := range near() {
			if a != b {
				wantOneAhead(t, a, b)
			}
		}
		wantOneAhead(t, a, a+(1<<31-1))
		wantOneAhead(t, a, a+1<<31)
		wantOneAhead(t, a, a+(1<<31+1))
		wantLess(t, a, a+1<<31, false)
		wantLess(t, a+1<<31, a, false)
	}
}

// someNumber is one of all, or one near an edge, or one near another one.
func someNumber(r *rand.Rand, other uint32) uint32 {
	switch r.Intn(4) {
	case 0:
		return r.Uint32()
	case 1:
		return near()[r.Intn(len(near()))]
	case 2:
		return other + 1<<31 + uint32(r.Intn(9)-4)
	}
	return other + uint32(r.Intn(41)-20)
}

// someWidth is a length or a window: one near an edge, a small one, or one of all.
func someWidth(r *rand.Rand) int {
	switch r.Intn(4) {
	case 0:
		return widths()[r.Intn(len(widths()))]
	case 1:
		return int(r.Uint64())
	case 2:
		return r.Intn(around)
	}
	return r.Intn(40) - 4
}

func TestManyNumbersBesidePlainOnes(t *testing.T) {
	r := rand.New(rand.NewSource(1))
	for range 300000 {
		a := someNumber(r, 0)
		b := someNumber(r, a)
		length, window := someWidth(r), someWidth(r)
		wantAhead(t, a, b, plainAhead(a, b))
		wantLess(t, a, b, plainLess(a, b))
		wantIn(t, a, b, window, plainIn(a, b, window))
		wantMay(t, a, length, b, window, plainMay(a, length, b, window))
		wantAlike(t, a, b, length, window, someNumber(r, a))
		if a != b {
			wantOneAhead(t, a, b)
		}
		if t.Failed() {
			return
		}
	}
}

func TestCallsKnowNothingOfOneAnother(t *testing.T) {
	for range 3 {
		wantAhead(t, 5, 3, 4294967294)
		wantLess(t, 4294967295, 2, true)
		wantIn(t, 2, 4294967295, 4, true)
		wantMay(t, 8, 2, 9, 5, true)
		wantAhead(t, 3, 5, 2)
		wantLess(t, 2, 4294967295, false)
		wantIn(t, 3, 4294967295, 4, false)
		wantMay(t, 5, 4, 9, 5, false)
	}
}
