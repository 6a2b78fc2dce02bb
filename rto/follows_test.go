package rto_test

import (
	"math"
	"math/rand"
	"testing"

	"blockyard/rto"
)

// plain does by other means what a clock does: it keeps all that was measured, and works the wait out when it is asked. The mean and how far it varies stand in whole ticks, and in parts of one.
type plain struct {
	first, least, most int
	measured           []int
	backs              int
}

func (p *plain) measure(r int) {
	p.measured = append(p.measured, min(max(r, 0), longest))
	p.backs = 0
}

func (p *plain) back() {
	p.backs++
}

func (p *plain) wait() int {
	wait := p.first
	if len(p.measured) > 0 {
		wait = p.cut(p.told())
	}
	for range p.backs {
		if wait > p.most-wait {
			return p.most
		}
		wait += wait
	}
	return wait
}

func (p *plain) cut(wait int) int {
	switch {
	case wait < p.least:
		return p.least
	case wait > p.most:
		return p.most
	}
	return wait
}

// told is the wait that the mean and how far it varies tell. Less an eighth of it eight times the mean is seven times it, and its eighths.
func (p *plain) told() int {
	mean, eighths := p.measured[0], 0
	quarter, rest := p.measured[0]/2, p.measured[0]%2*2
	for _, r := range p.measured[1:] {
		off := r - mean
		if r < mean {
			off = mean - r
		}
		varies := 3*quarter + rest + off
		quarter, rest = varies/4, varies%4
		sum := 7*mean + eighths + r
		mean, eighths = sum/8, sum%8
	}
	if quarter == 0 && rest == 0 {
		return mean + 1
	}
	return mean + 4*quarter + rest
}

// pair is a clock, and a plain one beside it.
type pair struct {
	c *rto.Clock
	p *plain
}

func pairOf(t *testing.T, first, least, most int) pair {
	t.Helper()
	return pair{made(t, first, least, most), &plain{first: first, least: least, most: most}}
}

func (x pair) measure(t *testing.T, r int) {
	t.Helper()
	x.c.Measure(r)
	x.p.measure(r)
	x.same(t)
}

func (x pair) back(t *testing.T) {
	t.Helper()
	was := x.c.Wait()
	x.c.Back()
	x.p.back()
	if x.c.Wait() < was {
		t.Fatalf("Back: the wait was %d, and is %d", was, x.c.Wait())
	}
	x.same(t)
}

// same holds that both wait alike, and within the bounds.
func (x pair) same(t *testing.T) {
	t.Helper()
	wait := x.c.Wait()
	if wait != x.p.wait() || wait < x.p.least || wait > x.p.most {
		t.Fatalf("the wait is %d, not %d, from %d to %d; measured %v, then Back %d times", wait, x.p.wait(), x.p.least, x.p.most, x.p.measured, x.p.backs)
	}
}

// P14.3

// All lists of five calls with small numbers, on clocks with small bounds and with wide ones.
func TestAllFiveCalls(t *testing.T) {
	const calls = 8 // Back, and numbers from -1 to 5
	for _, bounds := range [][3]int{{1, 1, 1}, {1, 1, 2}, {3, 2, 7}, {6, 3, 12}, {5, 5, longest}, {1, 1, longest}} {
		for list := range calls * calls * calls * calls * calls {
			x := pairOf(t, bounds[0], bounds[1], bounds[2])
			for range 5 {
				if call := list % calls; call == 0 {
					x.back(t)
				} else {
					x.measure(t, call-2)
				}
				list /= calls
			}
		}
	}
}

// All bounds that are small, with the same calls.
func TestAllSmallBounds(t *testing.T) {
	for most := 1; most <= 24; most++ {
		for first := 1; first <= most; first++ {
			for least := 1; least <= first; least++ {
				x := pairOf(t, first, least, most)
				for _, r := range []int{-9, 2, 2, 3, -9, 5, 9, 1, -9, -9, 0, 0, 30, 4, 4, 4, 4, -9} {
					if r == -9 {
						x.back(t)
					} else {
						x.measure(t, r)
					}
				}
			}
		}
	}
}

// someTicks is a number near an edge, or near another one, or a small one, or any up to the longest.
func someTicks(r *rand.Rand, other int) int {
	switch r.Intn(6) {
	case 0:
		return edges()[r.Intn(len(edges()))]
	case 1:
		return r.Intn(longest + 1)
	case 2:
		return r.Intn(20) - 2
	case 3:
		return r.Intn(1000)
	}
	return other + r.Intn(9) - 4
}

// someBounds are a first wait, a least and a most.
func someBounds(r *rand.Rand) (first, least, most int) {
	width := 1 << r.Intn(21)
	most = 1 + r.Intn(width)
	least = 1 + r.Intn(1+r.Intn(most))
	first = least + r.Intn(most-least+1)
	return first, least, most
}

// A clock beside a plain one, whatever is called.
func TestManyCallsBesideAPlainOne(t *testing.T) {
	least, most, amid := 0, 0, 0
	for seed := range int64(1500) {
		r := rand.New(rand.NewSource(seed))
		x := pairOf(t, 1, 1, longest)
		if seed%4 > 0 {
			first, least, most := someBounds(r)
			x = pairOf(t, first, least, most)
		}
		near := r.Intn(1 + r.Intn(x.p.most))
		for range 120 {
			if r.Intn(5) == 0 {
				x.back(t)
			} else {
				x.measure(t, someTicks(r, near))
			}
			switch x.c.Wait() {
			case x.p.least:
				least++
			case x.p.most:
				most++
			default:
				amid++
			}
		}
	}
	if least < 5000 || most < 5000 || amid < 5000 {
		t.Fatal("too seldom a wait is the least, the most, or between them:", least, most, amid)
	}
}

// Whatever Backs there are between them, what was measured alone says what the wait is behind a Measure.
func TestBacksAreForgotten(t *testing.T) {
	for seed := range int64(1000) {
		r := rand.New(rand.NewSource(seed))
		first, least, most := someBounds(r)
		c, other := made(t, first, least, most), made(t, least, least, most)
		near := r.Intn(1 + r.Intn(most))
		for range 60 {
			for range r.Intn(4) * r.Intn(12) {
				c.Back()
			}
			ticks := someTicks(r, near)
			c.Measure(ticks)
			wantMeasure(t, other, ticks, c.Wait())
		}
	}
}

// settled holds that measuring r again and again brings the wait to that, and at most 4 more, within the bounds, and leaves it there. The mean is an eighth nearer each time, so it is there soon.
func settled(t *testing.T, x pair, r int) {
	t.Helper()
	for range 300 {
		x.c.Measure(r)
	}
	low, high := x.p.cut(r), x.p.cut(r+4)
	for range 20 {
		if wait := x.c.Wait(); wait < low || wait > high {
			t.Fatalf("behind %v Measure(%d) again and again: the wait is %d, not from %d to %d", x.p.measured, r, wait, low, high)
		}
		x.c.Measure(r)
	}
	wait := x.c.Wait()
	wantMeasure(t, x.c, r, wait)
}

func someAhead() [][]int {
	return [][]int{
		{}, {0}, {1}, {longest}, {0, 0, 0}, {longest, longest, longest}, {0, longest}, {longest, 0}, {0, longest, 0, longest, 0},
		{5, 900, 3, 7, 100000}, {-1, math.MaxInt, math.MinInt}, {longest / 2, longest/2 + 1},
	}
}

func TestTheSameAgainAndAgain(t *testing.T) {
	l := []int{57, 100, 1000, 1001, 65535, longest/2 - 1, longest / 2, longest - 9, longest - 4, longest - 3, longest - 2, longest - 1, longest}
	for r := range 40 {
		l = append(l, r)
	}
	for _, r := range l {
		for _, bounds := range [][3]int{{1, 1, longest}, {longest, 1, longest}, {30, 20, 60}, {1000, 1000, longest}, {3, 1, 5}, {7, 7, 7}} {
			for _, ahead := range someAhead() {
				x := pairOf(t, bounds[0], bounds[1], bounds[2])
				for _, y := range ahead {
					x.measure(t, y)
				}
				settled(t, x, r)
			}
		}
	}
}

// From far above and from far below, step by step.
func TestTheSameFromFarAboveAndBelow(t *testing.T) {
	for _, r := range []int{0, 1, 7, 8, 9, 100, 5000} {
		for _, from := range []int{0, 1, longest / 3, longest} {
			x := pairOf(t, 1, 1, longest)
			x.measure(t, from)
			for range 200 {
				x.measure(t, r)
			}
			settled(t, x, r)
		}
	}
	c := wide(t)
	wantMeasures(t, c, []int{5, 5, 5, 5, 5, 5, 5, 5, 5}, []int{15, 13, 11, 10, 9, 8, 8, 8, 8})
}

// What was measured wrongly counts as it is cut, also again and again.
func TestTheSameBeyondTheEdgesAgainAndAgain(t *testing.T) {
	for _, ahead := range someAhead() {
		for _, r := range below() {
			x := pairOf(t, 9, 1, longest)
			for _, y := range ahead {
				x.measure(t, y)
			}
			for range 150 {
				x.measure(t, r)
			}
			settled(t, x, 0)
		}
		for _, r := range above() {
			x := pairOf(t, 9, 1, longest)
			for _, y := range ahead {
				x.measure(t, y)
			}
			for range 150 {
				x.measure(t, r)
			}
			settled(t, x, longest)
			wantWait(t, x.c, longest)
		}
	}
}
