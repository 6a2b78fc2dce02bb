package rto_test

import (
	"math"
	"testing"
)

// P14.2, Measure

func TestTheFirstMeasure(t *testing.T) {
	for _, x := range []struct{ r, wait int }{
		{0, 1}, {1, 3}, {2, 6}, {3, 9}, {4, 12}, {7, 21}, {8, 24}, {9, 27}, {100, 300}, {1001, 3003},
		{349525, 1048575}, {349526, longest}, {longest / 2, longest}, {longest - 1, longest}, {longest, longest},
	} {
		wantMeasure(t, wide(t), x.r, x.wait)
		wantMeasure(t, made(t, longest, 1, longest), x.r, x.wait)
	}
}

// Behind a first 10 the average is 80, and the spread 20.
func TestTheSecondMeasure(t *testing.T) {
	for _, x := range []struct{ r, wait int }{
		{0, 33},      // x is -10: 25 and 70
		{1, 32},      // -9: 24, 71
		{2, 32},      // -8: 23, 72
		{5, 29},      // -5: 20, 75
		{9, 25},      // -1: 16, 79
		{10, 25},     // 0: 15, 80
		{11, 26},     // 1: 16, 81
		{17, 32},     // 7: 22, 87
		{18, 34},     // 8: 23, 88
		{26, 43},     // 16: 31, 96
		{1010, 1150}, // 1000: 1015, 1080
	} {
		c := wide(t)
		wantMeasure(t, c, 10, 30)
		wantMeasure(t, c, x.r, x.wait)
	}
}

// Averages and spreads that are no eight times and four times anything: what is divided tells its whole part.
func TestWholePartsAlone(t *testing.T) {
	wantMeasures(t, wide(t),
		[]int{10, 11, 9, 10, 7, 20, 20, 3, 0, 0, 0}, // above the mean, below it, and at it
		[]int{30, 26, 23, 20, 20, 31, 36, 38, 41, 41, 40})
	wantMeasures(t, wide(t),
		[]int{1, 1, 1, 2, 3, 0},
		[]int{3, 3, 3, 4, 6, 6})
	wantMeasures(t, wide(t),
		[]int{80, 0, 0, 0, 0, 0, 0, 0, 0},
		[]int{240, 270, 281, 279, 270, 256, 239, 220, 200})
	wantMeasures(t, made(t, 15, 1, 2000),
		[]int{3, 4, 30, 1, 1, 1, 1, 1, 1, 1, 1, 1, 1, 5},
		[]int{9, 9, 38, 34, 31, 28, 25, 23, 21, 19, 17, 16, 14, 15})
}

// The mean is told from what was measured ahead, and not from what it is now: from 80 it is 10 that 26 is held against, not 12.
func TestTheSpreadMovesAheadOfTheAverage(t *testing.T) {
	c := wide(t)
	wantMeasures(t, c, []int{10, 26, 26}, []int{30, 43, 51}) // 31 and 96; x is 14: 38 and 110
	c = wide(t)
	wantMeasures(t, c, []int{100, 0, 0}, []int{300, 337, 351}) // 250 and 700; x is -87: 275 and 613
}

func TestSpreadsOfNoneAndOfOne(t *testing.T) {
	wantMeasures(t, wide(t), []int{0, 0, 1, 0, 8, 0}, []int{1, 1, 1, 1, 10, 9})
	wantMeasures(t, wide(t), []int{0, 0, 0, 5, 5}, []int{1, 1, 1, 5, 10})
	wantMeasures(t, wide(t), []int{0, 2, 0, 0}, []int{1, 2, 2, 2})
	wantMeasures(t, made(t, 2, 2, 9), []int{0, 0, 1, 0, 8, 0}, []int{2, 2, 2, 2, 9, 9})
}

// Noughts are measured as any other number is: what comes behind them is not the first one.
func TestNoughtsAreMeasuredToo(t *testing.T) {
	wantMeasures(t, wide(t), []int{0, 8}, []int{1, 9})
	wantMeasures(t, wide(t), []int{-1, 8}, []int{1, 9})
	wantMeasures(t, wide(t), []int{0, 0, 0, 0, 100}, []int{1, 1, 1, 1, 112})
	wantMeasure(t, wide(t), 8, 24)
}

func below() []int {
	return []int{-1, -2, -7, -8, -9, -longest, -1 << 31, -1 << 32, -1<<61 - 1, -1 << 62, math.MinInt + 1, math.MinInt}
}

func above() []int {
	return []int{longest + 1, longest + 2, longest + 8, 2 * longest, 8 * longest, 1<<31 - 1, 1 << 31, 1 << 32, 1<<32 + 1, 1 << 60, 1<<61 + 1, 1 << 62, math.MaxInt - 1, math.MaxInt}
}

func TestBelowNoughtCountsAsNought(t *testing.T) {
	for _, r := range below() {
		c := wide(t)
		wantMeasure(t, c, r, 1)
		wantMeasure(t, c, r, 1)
		wantMeasure(t, c, 8, 9)
		c = wide(t)
		wantMeasures(t, c, []int{10, r}, []int{30, 33})
		wantMeasure(t, c, 0, 34)  // x is -8, from 25 and 70: 27 and 62
		wantMeasure(t, c, r, 34)  // -7: 28 and 55
		wantMeasure(t, c, 10, 32) // 4: 25 and 59
	}
}

// What is above the longest wait counts as that, as the first one and as a later one: 1 more or less would be heard at last.
func TestAboveTheLongestCountsAsThat(t *testing.T) {
	behind := func(r, wait int) {
		t.Helper()
		c := wide(t)
		wantMeasure(t, c, r, longest)
		for range 16 {
			wantMeasure(t, c, 5, longest)
		}
		wantMeasure(t, c, 5, wait)
	}
	behind(longest-1, 927652)
	behind(longest, 927653)
	for _, r := range above() {
		behind(r, 927653)
	}
	wantMeasures(t, wide(t), []int{0, longest - 1, 0, 0}, []int{1, longest, 1032191, 903168})
	for _, r := range append(above(), longest) {
		wantMeasures(t, wide(t), []int{0, r, 0, 0}, []int{1, longest, 1032192, 903168})
	}
}

func TestAllTheEdgesOneBehindTheOther(t *testing.T) {
	for _, first := range edges() {
		for _, second := range edges() {
			c, p := wide(t), plain{first: 1, least: 1, most: longest}
			for range 4 {
				for _, r := range []int{first, second} {
					p.measure(r)
					wantMeasure(t, c, r, p.wait())
				}
			}
			for range 90 {
				p.measure(3)
				wantMeasure(t, c, 3, p.wait())
			}
		}
	}
}

func TestTheBoundsCutTheWait(t *testing.T) {
	for _, x := range []struct{ least, most, wait int }{
		{1, 29, 29}, {1, 30, 30}, {1, 31, 30}, {29, 40, 30}, {30, 40, 30}, {31, 40, 31}, {35, 35, 35}, {25, 25, 25}, {30, 30, 30}, {1, 1, 1},
		{1, longest, 30}, {longest, longest, longest},
	} {
		for _, first := range []int{x.least, x.most} {
			wantMeasure(t, made(t, first, x.least, x.most), 10, x.wait)
		}
	}
}

// The average and the spread go on behind a wait that was cut as if it had not been.
func TestTheBoundsCutNothingElse(t *testing.T) {
	measured := []int{3, 4, 30, 1, 1, 1, 1, 1, 1, 1, 1, 1, 1, 5}
	wantMeasures(t, made(t, 15, 12, 20), measured, []int{12, 12, 20, 20, 20, 20, 20, 20, 20, 19, 17, 16, 14, 15})
	wantMeasures(t, made(t, 15, 12, 2000), measured, []int{12, 12, 38, 34, 31, 28, 25, 23, 21, 19, 17, 16, 14, 15})
	wantMeasures(t, made(t, 15, 1, 20), measured, []int{9, 9, 20, 20, 20, 20, 20, 20, 20, 19, 17, 16, 14, 15})
	wantMeasures(t, made(t, 30, 20, 60), []int{1, 1, 1, 10, 10, 20}, []int{20, 20, 20, 20, 20, 35})

	c := made(t, 5, 1, 60)
	wantMeasure(t, c, 1000, 60)
	for range 38 {
		wantMeasure(t, c, 10, 60)
	}
	wantMeasure(t, c, 10, 60) // 60 as it is, of 127 and 45
	wantMeasure(t, c, 10, 54)
}

// P14.2, Back

func TestBackDoubles(t *testing.T) {
	c := wide(t)
	for i := 1; i <= 20; i++ {
		wantBack(t, c, 1<<i)
	}
	for range 100 {
		wantBack(t, c, longest)
	}
	c = made(t, 3, 1, longest)
	for i := 1; i <= 18; i++ {
		wantBack(t, c, 3<<i)
	}
	wantBack(t, c, longest)
}

func TestBackNearHalfTheMost(t *testing.T) {
	for _, most := range []int{2, 3, 4, 9, 10, 59, 60, 99, 100, 1001, longest - 1, longest} {
		half := most / 2
		for _, first := range []int{half - 1, half, half + 1, most - 1, most} {
			if first < 1 {
				continue
			}
			c := made(t, first, 1, most)
			wantBack(t, c, min(first+first, most))
			wantBack(t, c, min(4*first, most))
			for range 70 {
				c.Back()
			}
			wantBack(t, c, most)
		}
	}
	wantBack(t, made(t, 29, 1, 60), 58)
	wantBack(t, made(t, 30, 1, 60), 60)
	wantBack(t, made(t, 31, 1, 60), 60)
	wantBack(t, made(t, 30, 1, 61), 60)
	wantBack(t, made(t, 31, 1, 61), 61)
	wantBack(t, made(t, 60, 1, 60), 60)
}

func TestBackBehindAMeasure(t *testing.T) {
	c := made(t, 30, 2, 100)
	wantBack(t, c, 60)
	wantBack(t, c, 100)
	wantMeasure(t, c, 8, 24)
	wantBack(t, c, 48)
	wantBack(t, c, 96)
	wantBack(t, c, 100)
	wantBack(t, c, 100)
	wantMeasure(t, c, 8, 20)
	wantMeasure(t, c, 0, 24)
	wantBack(t, c, 48)
	wantMeasure(t, c, 8, 21)
	wantMeasure(t, c, 1000, 100)
	wantBack(t, c, 100)
}

// The wait is doubled as the bounds cut it.
func TestBackBehindACutMeasure(t *testing.T) {
	c := made(t, 10, 10, 50)
	wantMeasure(t, c, 1, 10)
	wantBack(t, c, 20)
	wantBack(t, c, 40)
	wantBack(t, c, 50)
	wantMeasure(t, c, 1, 10)
	c = made(t, 10, 10, 50)
	wantMeasure(t, c, 100, 50)
	wantBack(t, c, 50)
	c = made(t, 7, 7, 7)
	for _, r := range []int{0, 1, 2, 3, 50, longest} {
		wantMeasure(t, c, r, 7)
		wantBack(t, c, 7)
	}
}
