package rto_test

import (
	"math"
	"testing"

	"blockyard/api"
	"blockyard/rto"
)

// longest is the most that a clock's most wait may be, and that anything counts as that was measured.
const longest = 1 << 20

// edges are the numbers at which something may be cut or refused, and those beside them.
func edges() []int {
	return []int{
		math.MinInt, math.MinInt + 1, -1 << 32, -1 << 31, -longest - 1, -longest, -2, -1,
		0, 1, 2, 3, 7, 8, 9, longest/2 - 1, longest / 2, longest/2 + 1, longest - 2, longest - 1, longest,
		longest + 1, longest + 2, 2 * longest, 8 * longest, 1 << 31, 1 << 32, 1<<32 + 1, 1<<61 + 1, math.MaxInt - 1, math.MaxInt,
	}
}

func made(t *testing.T, first, least, most int) *rto.Clock {
	t.Helper()
	c, e := rto.New(first, least, most)
	if e != api.OK || c == nil {
		t.Fatalf("New(%d, %d, %d): %v, %d", first, least, most, c, e)
	}
	wantWait(t, c, first)
	return c
}

// wide is one whose bounds cut nothing that is below the longest wait.
func wide(t *testing.T) *rto.Clock {
	t.Helper()
	return made(t, 1, 1, longest)
}

func wantWait(t *testing.T, c *rto.Clock, wait int) {
	t.Helper()
	if x := c.Wait(); x != wait {
		t.Fatalf("Wait: %d, not %d", x, wait)
	}
}

func wantMeasure(t *testing.T, c *rto.Clock, r, wait int) {
	t.Helper()
	c.Measure(r)
	if x := c.Wait(); x != wait {
		t.Fatalf("Measure(%d): the wait is %d, not %d", r, x, wait)
	}
}

// wantMeasures holds that the waits behind what is measured are these.
func wantMeasures(t *testing.T, c *rto.Clock, measured, waits []int) {
	t.Helper()
	if len(measured) != len(waits) {
		t.Fatalf("%d are measured, but %d waits", len(measured), len(waits))
	}
	for i, r := range measured {
		c.Measure(r)
		if x := c.Wait(); x != waits[i] {
			t.Fatalf("Measure(%d), the one behind %v: the wait is %d, not %d", r, measured[:i], x, waits[i])
		}
	}
}

func wantBack(t *testing.T, c *rto.Clock, wait int) {
	t.Helper()
	c.Back()
	if x := c.Wait(); x != wait {
		t.Fatalf("Back: the wait is %d, not %d", x, wait)
	}
}

// The chapter's examples

func TestExamples(t *testing.T) {
	c := made(t, 30, 2, 60)
	wantMeasure(t, c, 10, 30)
	wantMeasure(t, c, 10, 25)
	wantBack(t, c, 50)
	wantMeasure(t, c, 2, 29)
	wantRefused(t, 0, 0, 5)
	wantRefused(t, 5, 6, 9)
	wantRefused(t, 5, 5, 4)
}

// P14.1

func wantRefused(t *testing.T, first, least, most int) {
	t.Helper()
	if c, e := rto.New(first, least, most); c != nil || e != api.ErrArg {
		t.Fatalf("New(%d, %d, %d): %v, %d", first, least, most, c, e)
	}
}

func TestNewAtTheLeast(t *testing.T) {
	made(t, 1, 1, 1)
	made(t, 5, 1, 9)
	for _, least := range []int{0, -1, -2, -longest, -1 << 31, -1 << 32, math.MinInt + 1, math.MinInt} {
		wantRefused(t, least, least, 9)
		wantRefused(t, 0, least, 9)
		wantRefused(t, 1, least, 1)
		wantRefused(t, 5, least, 9)
		wantRefused(t, longest, least, longest)
	}
}

func TestNewAtTheFirst(t *testing.T) {
	for _, least := range []int{1, 2, 5, 1000, longest - 2} {
		wantRefused(t, least-1, least, longest)
		made(t, least, least, longest)
		made(t, least+1, least, longest)
		for _, first := range []int{0, -1, -longest, -1 << 31, math.MinInt + 1, math.MinInt} {
			wantRefused(t, first, least, longest)
		}
		for _, first := range []int{longest + 1, 1 << 31, 1 << 32, math.MaxInt - 1, math.MaxInt} {
			wantRefused(t, first, least, longest)
		}
	}
}

func TestNewAtTheMost(t *testing.T) {
	for _, first := range []int{1, 2, 5, 1000, longest - 1} {
		wantRefused(t, first, 1, first-1)
		made(t, first, 1, first)
		made(t, first, 1, first+1)
		made(t, first, first, longest)
		for _, most := range []int{longest + 1, longest + 2, 2 * longest, 1 << 31, 1 << 32, math.MaxInt - 1, math.MaxInt} {
			wantRefused(t, first, 1, most)
			wantRefused(t, first, first, most)
			wantRefused(t, most, 1, most)
			wantRefused(t, most, most, most)
		}
		for _, most := range []int{0, -1, -longest, -1 << 31, math.MinInt + 1, math.MinInt} {
			wantRefused(t, first, 1, most)
			wantRefused(t, most, most, most)
		}
	}
	made(t, longest, longest, longest)
	made(t, longest, 1, longest)
}

func TestNewOfAllThreeNearTheEdges(t *testing.T) {
	l := edges()
	for i := -4; i < 9; i++ {
		l = append(l, i)
	}
	for _, first := range l {
		for _, least := range l {
			for _, most := range l {
				if 1 <= least && least <= first && first <= most && most <= longest {
					made(t, first, least, most)
				} else {
					wantRefused(t, first, least, most)
				}
			}
		}
	}
}

// What is measured first is the first one, however long the first wait is.
func TestNewHasMeasuredNothing(t *testing.T) {
	for _, first := range []int{1, 2, 10, 29, 30, 31, 1000, longest} {
		c := made(t, first, 1, longest)
		wantMeasures(t, c, []int{10, 10}, []int{30, 25})
		c = made(t, first, 1, longest)
		c.Back()
		wantMeasures(t, c, []int{10, 10}, []int{30, 25})
	}
}

// P14.2, of none

func TestNone(t *testing.T) {
	for name, c := range map[string]*rto.Clock{"nil": nil, "zero": {}, "new": new(rto.Clock)} {
		for _, r := range edges() {
			c.Measure(r)
			if x := c.Wait(); x != 0 {
				t.Fatalf("%s: Measure(%d): the wait is %d", name, r, x)
			}
			c.Back()
			if x := c.Wait(); x != 0 {
				t.Fatalf("%s: Back: the wait is %d", name, x)
			}
		}
	}
}

func TestWhatNewRefusedIsNone(t *testing.T) {
	c, _ := rto.New(5, 6, 9)
	c.Measure(3)
	c.Back()
	wantWait(t, c, 0)
}

// A copy of what New made is none, and does nothing to what New made.
func TestCopyIsNone(t *testing.T) {
	c := made(t, 30, 2, 60)
	d := *c
	wantWait(t, &d, 0)
	wantMeasure(t, c, 10, 30)
	e := *c
	for _, x := range []*rto.Clock{&d, &e} {
		wantMeasure(t, x, 10, 0)
		wantMeasure(t, x, 50, 0)
		wantBack(t, x, 0)
	}
	wantWait(t, c, 30)
	wantMeasure(t, c, 10, 25)
	wantWait(t, &e, 0)
}

func TestWaitChangesNothing(t *testing.T) {
	c := made(t, 30, 2, 60)
	for _, x := range []struct{ r, wait int }{{10, 30}, {10, 25}, {2, 29}, {100, 60}, {0, 60}} {
		wantMeasure(t, c, x.r, x.wait)
		for range 20 {
			wantWait(t, c, x.wait)
		}
	}
}

// R3

func TestClocksAreApart(t *testing.T) {
	c, d := made(t, 30, 2, 60), made(t, 30, 2, 60)
	wantMeasure(t, c, 10, 30)
	wantWait(t, d, 30)
	wantBack(t, d, 60)
	wantWait(t, c, 30)
	wantMeasure(t, c, 10, 25)
	wantMeasure(t, d, 8, 24) // its first one
	wantMeasure(t, c, 10, 22)
	wantMeasure(t, d, 8, 20)
	wantBack(t, c, 44)
	wantWait(t, d, 20)
	e := made(t, 3, 3, 3)
	wantMeasure(t, e, 50, 3)
	wantWait(t, c, 44)
	wantMeasure(t, d, 8, 17)
}

func TestManyClocksAreApart(t *testing.T) {
	const many = 64
	l := make([]*rto.Clock, many)
	for i := range l {
		l[i] = made(t, 10+i, 1+i/8, 300+i)
	}
	for round := range 40 {
		for i, c := range l {
			if (round+i)%5 == 0 {
				c.Back()
			}
			c.Measure((round*13 + i*i) % 97)
		}
	}
	for i, c := range l {
		alone := made(t, 10+i, 1+i/8, 300+i)
		for round := range 40 {
			alone.Measure((round*13 + i*i) % 97)
		}
		wantWait(t, c, alone.Wait())
	}
}

func TestTheSameCallsAreAnsweredAlike(t *testing.T) {
	var first []int
	for again := range 3 {
		c := made(t, 40, 2, 5000)
		for i := range 200 {
			if i%7 == 3 {
				c.Back()
			} else {
				c.Measure(i * i % 1013)
			}
			if again == 0 {
				first = append(first, c.Wait())
			}
			wantWait(t, c, first[i])
		}
	}
}
