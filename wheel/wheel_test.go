package wheel_test

import (
	"math"
	"testing"

	"blockyard/api"
	"blockyard/wheel"
)

func wantSet[T any](t *testing.T, w *wheel.Wheel[T], id, due int, x T) {
	t.Helper()
	if got, e := w.Set(due, x); got != id || e != api.OK {
		t.Fatalf("Set(%d, %v): %d, %d, not %d", due, x, got, e, id)
	}
}

// wantNoSet holds that Set answers an error, and changes nothing.
func wantNoSet[T any](t *testing.T, w *wheel.Wheel[T], want api.Errno, due int, x T) {
	t.Helper()
	now, n := w.Now(), w.Len()
	next, ok := w.Next()
	if got, e := w.Set(due, x); got != 0 || e != want {
		t.Fatalf("Set(%d, %v): %d, %d, not error %d", due, x, got, e, want)
	}
	wantState(t, w, now, n)
	if got, is := w.Next(); got != next || is != ok {
		t.Fatalf("Next is changed by an error: %d, %v, not %d, %v", got, is, next, ok)
	}
}

func wantCancel[T any](t *testing.T, w *wheel.Wheel[T], ids ...int) {
	t.Helper()
	for _, id := range ids {
		n := w.Len()
		if !w.Cancel(id) {
			t.Fatalf("Cancel(%d): false", id)
		}
		wantState(t, w, w.Now(), n-1)
	}
}

// wantNoCancel holds that there are no timers of these numbers.
func wantNoCancel[T any](t *testing.T, w *wheel.Wheel[T], ids ...int) {
	t.Helper()
	for _, id := range ids {
		n := w.Len()
		if w.Cancel(id) {
			t.Fatalf("Cancel(%d): true", id)
		}
		wantState(t, w, w.Now(), n)
	}
}

func wantAdvance[T comparable](t *testing.T, w *wheel.Wheel[T], to int, want ...T) {
	t.Helper()
	now, n := max(w.Now(), to), w.Len()
	wantThings(t, w.Advance(to), want)
	wantState(t, w, now, n-len(want))
}

func wantThings[T comparable](t *testing.T, got, want []T) {
	t.Helper()
	same := len(got) == len(want)
	for i := 0; same && i < len(got); i++ {
		same = got[i] == want[i]
	}
	if !same {
		t.Fatalf("told: %v, not %v", got, want)
	}
}

func wantState[T any](t *testing.T, w *wheel.Wheel[T], now, n int) {
	t.Helper()
	if w.Now() != now || w.Len() != n {
		t.Fatalf("Now %d, Len %d, not %d, %d", w.Now(), w.Len(), now, n)
	}
}

func wantNext[T any](t *testing.T, w *wheel.Wheel[T], want int) {
	t.Helper()
	if due, ok := w.Next(); due != want || !ok {
		t.Fatalf("Next: %d, %v, not %d", due, ok, want)
	}
}

func wantNoNext[T any](t *testing.T, w *wheel.Wheel[T]) {
	t.Helper()
	if due, ok := w.Next(); due != 0 || ok {
		t.Fatalf("Next of none: %d, %v", due, ok)
	}
}

// full is a wheel of MaxTimer timers: that of the number i is due at 10 i, and its thing is i.
func full(t *testing.T) *wheel.Wheel[int] {
	t.Helper()
	w := wheel.New[int]()
	for id := 1; id <= api.MaxTimer; id++ {
		wantSet(t, w, id, 10*id, id)
	}
	wantState(t, w, 0, 256)
	return w
}

// The chapter's examples

func TestExamples(t *testing.T) {
	w := wheel.New[string]()
	wantSet(t, w, 1, 5, "a")
	wantSet(t, w, 2, 3, "b")
	wantSet(t, w, 3, 5, "c")
	wantNext(t, w, 3)
	wantAdvance(t, w, 2)
	wantAdvance(t, w, 5, "b", "a", "c")
	wantState(t, w, 5, 0)

	wantSet(t, w, 4, 1, "d")
	wantNext(t, w, 1)
	wantCancel(t, w, 4)
	wantNoCancel(t, w, 4)
	wantAdvance(t, w, 4)
	wantState(t, w, 5, 0)
	wantNoSet(t, w, api.ErrArg, -1, "e")
}

// P5.1

func TestNewHasNoTimers(t *testing.T) {
	w := wheel.New[int]()
	if w == nil {
		t.Fatal("no wheel")
	}
	wantState(t, w, 0, 0)
	wantNoNext(t, w)
	wantNoCancel(t, w, 0, 1, -1)
	wantAdvance(t, w, 0)
	wantAdvance(t, w, 100)
	wantNoNext(t, w)
}

func TestNowIsTheTime(t *testing.T) {
	w := wheel.New[int]()
	for _, c := range []struct{ to, now int }{{0, 0}, {1, 1}, {7, 7}, {7, 7}, {6, 7}, {-1, 7}, {1 << 40, 1 << 40}, {8, 1 << 40}, {math.MaxInt, math.MaxInt}, {math.MinInt, math.MaxInt}} {
		w.Advance(c.to)
		wantState(t, w, c.now, 0)
	}
}

func TestLenCountsWhatIsThere(t *testing.T) {
	w := wheel.New[int]()
	wantSet(t, w, 1, 4, 1)
	wantState(t, w, 0, 1)
	wantSet(t, w, 2, 4, 1)
	wantSet(t, w, 3, 9, 1)
	wantState(t, w, 0, 3)
	wantCancel(t, w, 2)
	wantState(t, w, 0, 2)
	wantAdvance(t, w, 4, 1)
	wantState(t, w, 4, 1)
	wantAdvance(t, w, 9, 1)
	wantState(t, w, 9, 0)
}

func TestNextIsTheLeastMoment(t *testing.T) {
	w := wheel.New[int]()
	for i, due := range []int{900, 1000, 870, 64, 65, 63, 5, 6, 0} {
		wantSet(t, w, i+1, due, 0)
		wantNext(t, w, []int{900, 900, 870, 64, 64, 63, 5, 5, 0}[i])
	}
	wantCancel(t, w, 9)
	wantNext(t, w, 5)
	wantCancel(t, w, 7, 8, 6, 5)
	wantNext(t, w, 64)
	wantAdvance(t, w, 869, 0)
	wantNext(t, w, 870)
	wantAdvance(t, w, 900, 0, 0)
	wantNext(t, w, 1000)
	wantCancel(t, w, 2)
	wantNoNext(t, w)
}

func TestNextMayBeBehind(t *testing.T) {
	w := wheel.New[int]()
	wantAdvance(t, w, 50)
	wantSet(t, w, 1, 60, 0)
	wantSet(t, w, 2, 50, 0)
	wantNext(t, w, 50)
	wantSet(t, w, 3, 0, 0)
	wantNext(t, w, 0)
	wantSet(t, w, 4, 49, 0)
	wantNext(t, w, 0)
	wantCancel(t, w, 3)
	wantNext(t, w, 49)
}

// P5.2

func TestSetOfMoments(t *testing.T) {
	w := wheel.New[string]()
	for i, due := range []int{0, 1, 63, 64, 65, 255, 256, 1 << 31, 1 << 40, math.MaxInt - 1, math.MaxInt} {
		wantSet(t, w, i+1, due, "x")
	}
	for _, due := range []int{-1, -2, -64, -1 << 40, math.MinInt + 1, math.MinInt} {
		wantNoSet(t, w, api.ErrArg, due, "y")
	}
	wantSet(t, w, 12, 3, "z")
	wantAdvance(t, w, 3, "x", "x", "z")
}

func TestSetBehindAlready(t *testing.T) {
	for _, to := range []int{1, 50, 64, 1000, math.MaxInt} {
		w := wheel.New[string]()
		wantAdvance(t, w, to)
		wantSet(t, w, 1, to, "now")
		wantSet(t, w, 2, 0, "first")
		wantSet(t, w, 3, to-1, "before")
		wantState(t, w, to, 3)
		wantNext(t, w, 0)
		wantAdvance(t, w, 0, []string{"first", "before", "now"}...)
		wantAdvance(t, w, to)
	}
}

func TestSetOfTooMany(t *testing.T) {
	w := full(t)
	for _, due := range []int{0, 5, 10, 2560, math.MaxInt} {
		wantNoSet(t, w, api.ErrFull, due, 0)
	}
	// What the promise names first is answered.
	wantNoSet(t, w, api.ErrArg, -1, 0)
	wantNoSet(t, w, api.ErrArg, math.MinInt, 0)
}

func TestSetOfOneMoreBehindACancel(t *testing.T) {
	w := full(t)
	for i, id := range []int{1, 256, 100} {
		wantNoCancel(t, w, 0, 999)
		wantCancel(t, w, id)
		wantSet(t, w, 257+i, 7, -i)
		wantNoSet(t, w, api.ErrFull, 7, 0)
	}
	wantAdvance(t, w, 20, 0, -1, -2, 2)
}

func TestSetOfOneMoreBehindAnAdvance(t *testing.T) {
	w := full(t)
	wantAdvance(t, w, 9)
	wantNoSet(t, w, api.ErrFull, 9, 0)
	wantAdvance(t, w, 20, 1, 2)
	wantSet(t, w, 257, 30, 257)
	wantSet(t, w, 258, 15, 258)
	wantNoSet(t, w, api.ErrFull, 15, 0)
	wantAdvance(t, w, 30, 258, 3, 257)
}

func TestFullOfOneMoment(t *testing.T) {
	w := wheel.New[int]()
	for range 3 {
		first, _ := w.Set(w.Now()+70, 0)
		want := []int{0}
		for i := 1; i < api.MaxTimer; i++ {
			wantSet(t, w, first+i, w.Now()+70, i)
			want = append(want, i)
		}
		wantNoSet(t, w, api.ErrFull, 0, 0)
		wantAdvance(t, w, w.Now()+69)
		wantAdvance(t, w, w.Now()+1, want...)
	}
}

func TestNumbersGoOn(t *testing.T) {
	w := wheel.New[string]()
	wantSet(t, w, 1, 3, "a")
	wantSet(t, w, 2, 4, "b")
	wantCancel(t, w, 2)
	wantSet(t, w, 3, 5, "c") // behind a number that was cancelled
	wantAdvance(t, w, 5, "a", "c")
	wantSet(t, w, 4, 5, "d") // behind one that was told
	wantNoSet(t, w, api.ErrArg, -5, "e")
	wantSet(t, w, 5, 5, "f") // an error has none
	wantNoCancel(t, w, 1, 2, 3)
	wantAdvance(t, w, 5, "d", "f")
}

func TestCancelOfOneOfMany(t *testing.T) {
	w := wheel.New[string]()
	for i, x := range []string{"a", "b", "c", "d", "e"} {
		wantSet(t, w, i+1, 8, x)
	}
	wantSet(t, w, 6, 8+64, "f")
	wantCancel(t, w, 3, 1)
	wantNoCancel(t, w, 3, 1, 0, -1, -3, 7, math.MaxInt, math.MinInt)
	wantCancel(t, w, 5)
	wantAdvance(t, w, 8, "b", "d")
	wantNoCancel(t, w, 2, 4)
	wantCancel(t, w, 6)
	wantAdvance(t, w, 1000)
	wantNoNext(t, w)
}

func TestCancelIsByNumberAlone(t *testing.T) {
	w := wheel.New[int]()
	wantSet(t, w, 1, 2, 3)
	wantNoCancel(t, w, 2, 3)
	wantSet(t, w, 2, 1, 3)
	wantCancel(t, w, 1)
	wantNext(t, w, 1)
	wantAdvance(t, w, 9, 3)
}

func TestCancelOfOneThatIsDue(t *testing.T) {
	w := wheel.New[string]()
	wantAdvance(t, w, 10)
	wantSet(t, w, 1, 3, "a")
	wantSet(t, w, 2, 4, "b")
	wantCancel(t, w, 1)
	wantAdvance(t, w, 10, "b")
}

// P5.3

func TestAdvanceUpToAMoment(t *testing.T) {
	for _, due := range []int{1, 2, 63, 64, 65, 127, 128, 129, 1 << 31, math.MaxInt} {
		w := wheel.New[string]()
		wantSet(t, w, 1, due, "x")
		wantAdvance(t, w, due-1)
		wantNext(t, w, due)
		wantAdvance(t, w, due, "x")
		wantAdvance(t, w, due)
	}
}

func TestAdvanceOfNought(t *testing.T) {
	w := wheel.New[string]()
	wantSet(t, w, 1, 0, "x")
	wantSet(t, w, 2, 1, "y")
	wantAdvance(t, w, 0, "x")
	wantAdvance(t, w, 0)
	wantSet(t, w, 3, 0, "z")
	wantAdvance(t, w, math.MinInt, "z")
	wantState(t, w, 0, 1)
}

func TestAdvanceToATimeBelow(t *testing.T) {
	for _, to := range []int{99, 100, 36, 1, 0, -1, -64, -100, math.MinInt} {
		w := wheel.New[string]()
		wantAdvance(t, w, 100)
		wantSet(t, w, 1, 101, "later")
		wantSet(t, w, 2, 99, "behind")
		wantSet(t, w, 3, 100, "now")
		wantSet(t, w, 4, 164, "much later")
		wantAdvance(t, w, to, "behind", "now")
		wantAdvance(t, w, to)
		wantState(t, w, 100, 2)
		wantAdvance(t, w, 101, "later")
		wantAdvance(t, w, 163)
		wantAdvance(t, w, 164, "much later")
	}
}

func TestAdvanceTellsInOrder(t *testing.T) {
	w := wheel.New[string]()
	for i, x := range []struct {
		due  int
		name string
	}{{70, "e"}, {6, "b"}, {70, "f"}, {6, "c"}, {3, "a"}, {134, "h"}, {69, "d"}, {70, "g"}} {
		wantSet(t, w, i+1, x.due, x.name)
	}
	wantAdvance(t, w, 200, "a", "b", "c", "d", "e", "f", "g", "h")
}

func TestAdvanceTellsWhatWasBehindInOrder(t *testing.T) {
	w := wheel.New[string]()
	wantSet(t, w, 1, 31, "d")
	wantAdvance(t, w, 30)
	wantSet(t, w, 2, 29, "c")
	wantSet(t, w, 3, 7, "a")
	wantSet(t, w, 4, 31, "e")
	wantSet(t, w, 5, 7, "b")
	wantAdvance(t, w, 31, "a", "b", "c", "d", "e")
}

func TestAdvanceByOneRound(t *testing.T) {
	for _, start := range []int{0, 1, 63, 1000} {
		for step := 60; step < 132; step++ {
			w := wheel.New[int]()
			wantAdvance(t, w, start)
			for i := range 200 {
				wantSet(t, w, i+1, start+i, i)
			}
			want := []int{}
			for i := range step + 1 {
				want = append(want, i)
			}
			wantAdvance(t, w, start+step, want...)
			wantNext(t, w, start+step+1)
		}
	}
}

func TestAdvanceToTheGreatest(t *testing.T) {
	w := wheel.New[string]()
	wantSet(t, w, 1, math.MaxInt, "c")
	wantSet(t, w, 2, math.MaxInt-1, "b")
	wantSet(t, w, 3, 0, "a")
	wantSet(t, w, 4, math.MaxInt, "d")
	wantAdvance(t, w, math.MaxInt, "a", "b", "c", "d")
	wantSet(t, w, 5, math.MaxInt, "e")
	wantSet(t, w, 6, 1, "f")
	wantAdvance(t, w, math.MaxInt, "f", "e")
	wantNoNext(t, w)
}

func TestAdvanceAnswersNewMemory(t *testing.T) {
	w := wheel.New[int]()
	for i := range 8 {
		wantSet(t, w, i+1, i/4, i)
	}
	got := w.Advance(0)
	wantThings(t, got, []int{0, 1, 2, 3})
	got = append(got[:1], 77, 78, 79, 80, 81)
	got[0] = 76
	later := w.Advance(1)
	wantThings(t, later, []int{4, 5, 6, 7})
	wantThings(t, got, []int{76, 77, 78, 79, 80, 81})
}

// P5.4

func TestOfNone(t *testing.T) {
	made := wheel.New[string]()
	wantAdvance(t, made, 5)
	wantSet(t, made, 1, 6, "a")
	wantSet(t, made, 2, 4, "b")
	copied := *made
	for name, w := range map[string]*wheel.Wheel[string]{"nil": nil, "zero": {}, "copied": &copied} {
		t.Run(name, func(t *testing.T) {
			for range 2 {
				wantState(t, w, 0, 0)
				wantNoNext(t, w)
				for _, due := range []int{0, 1, 100, -1, math.MinInt, math.MaxInt} {
					wantNoSet(t, w, api.ErrNil, due, "x")
				}
				wantNoCancel(t, w, 0, 1, 2, -1, math.MaxInt)
				for _, to := range []int{0, 6, 100, -1, math.MinInt, math.MaxInt} {
					wantThings(t, w.Advance(to), nil)
					wantState(t, w, 0, 0)
				}
			}
		})
	}
	wantState(t, made, 5, 2)
	wantNext(t, made, 4)
	wantAdvance(t, made, 6, "b", "a")
	wantSet(t, made, 3, 6, "c")
}

// Wheels of any things

// wheelOf holds that a wheel of x and y works whatever they are.
func wheelOf[T comparable](t *testing.T, x, y T) {
	t.Helper()
	w := wheel.New[T]()
	wantSet(t, w, 1, 70, x)
	wantSet(t, w, 2, 6, y)
	wantSet(t, w, 3, 70, y)
	wantSet(t, w, 4, 6, x)
	wantCancel(t, w, 4)
	wantNext(t, w, 6)
	wantAdvance(t, w, 6, y)
	wantAdvance(t, w, 1000, x, y)
	wantNoNext(t, w)
	wantNoSet(t, (*wheel.Wheel[T])(nil), api.ErrNil, 0, x)
	wantThings(t, (*wheel.Wheel[T])(nil).Advance(9), nil)
}

func TestWheelsOfAnyThings(t *testing.T) {
	one, two := 1, 2
	wheelOf(t, 1, 0)
	wheelOf(t, uint8(255), 1)
	wheelOf(t, "", "a text")
	wheelOf(t, &one, &two)
	wheelOf(t, nil, &two)
	wheelOf(t, struct{}{}, struct{}{})
	wheelOf[any](t, nil, "x")
	wheelOf(t, api.Mac{1}, api.Mac{5: 2})
	wheelOf(t, [70000]byte{1}, [70000]byte{69999: 2})
	wheelOf(t, api.Seg{From: 1, Data: "a"}, api.Seg{})
}

func TestWheelsOfWhatCantBeCompared(t *testing.T) {
	lists := wheel.New[[]int]()
	wantSet(t, lists, 1, 2, []int{1, 2})
	wantSet(t, lists, 2, 1, nil)
	got := lists.Advance(2)
	if len(got) != 2 || got[0] != nil {
		t.Fatal(got)
	}
	wantThings(t, got[1], []int{1, 2})

	calls := wheel.New[func() int]()
	wantSet(t, calls, 1, 2, func() int { return 7 })
	wantSet(t, calls, 2, 1, func() int { return 8 })
	if got := calls.Advance(2); len(got) != 2 || got[0]() != 8 || got[1]() != 7 {
		t.Fatal("calls")
	}
}

func TestWheelsAreApart(t *testing.T) {
	a, b := wheel.New[int](), wheel.New[int]()
	wantSet(t, a, 1, 5, 1)
	wantSet(t, a, 2, 6, 2)
	wantState(t, b, 0, 0)
	wantSet(t, b, 1, 4, 3)
	wantCancel(t, a, 1)
	wantAdvance(t, a, 5)
	wantState(t, b, 0, 1)
	wantNext(t, b, 4)
	wantAdvance(t, b, 6, 3)
	wantAdvance(t, a, 6, 2)
}
