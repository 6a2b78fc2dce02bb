package wheel_test

import (
	"cmp"
	"math"
	"math/rand"
	"slices"
	"testing"

	"blockyard/api"
	"blockyard/wheel"
)

// P5.5

type plainTimer struct{ id, due int }

// plain is what a wheel has to be, in the plainest way: a list of timers, of which each one's thing is its number.
type plain struct {
	now, last int
	timers    []plainTimer
}

func (p *plain) set(due int) (int, api.Errno) {
	if due < 0 {
		return 0, api.ErrArg
	}
	if len(p.timers) == 256 {
		return 0, api.ErrFull
	}
	p.last++
	p.timers = append(p.timers, plainTimer{p.last, due})
	return p.last, api.OK
}

func (p *plain) cancel(id int) bool {
	n := len(p.timers)
	p.timers = slices.DeleteFunc(p.timers, func(x plainTimer) bool { return x.id == id })
	return len(p.timers) < n
}

func (p *plain) advance(to int) []int {
	p.now = max(p.now, to)
	slices.SortStableFunc(p.timers, func(x, y plainTimer) int { return cmp.Compare(x.due, y.due) })
	told := []int{}
	for len(p.timers) > 0 && p.timers[0].due <= p.now {
		told = append(told, p.timers[0].id)
		p.timers = p.timers[1:]
	}
	slices.SortFunc(p.timers, func(x, y plainTimer) int { return cmp.Compare(x.id, y.id) })
	return told
}

func (p *plain) next() (int, bool) {
	due, ok := math.MaxInt, false
	for _, x := range p.timers {
		due, ok = min(due, x.due), true
	}
	if !ok {
		return 0, false
	}
	return due, true
}

// walk does one call on both, and holds that they answer the same.
func walk(t *testing.T, r *rand.Rand, w *wheel.Wheel[int], p *plain, far int) {
	t.Helper()
	switch n := r.Intn(10); {
	case n < 6:
		due := p.now + r.Intn(far) - far/4
		id, e := w.Set(due, p.last+1)
		if want, f := p.set(due); id != want || e != f {
			t.Fatalf("Set(%d): %d, %d, not %d, %d", due, id, e, want, f)
		}
	case n < 8:
		id := r.Intn(p.last+3) - 1
		if got, want := w.Cancel(id), p.cancel(id); got != want {
			t.Fatalf("Cancel(%d): %v", id, got)
		}
	default:
		to := p.now + r.Intn(far/4+2) - 1
		wantThings(t, w.Advance(to), p.advance(to))
	}
	wantState(t, w, p.now, len(p.timers))
	due, ok := w.Next()
	if want, is := p.next(); due != want || ok != is {
		t.Fatalf("Next: %d, %v, not %d, %v", due, ok, want, is)
	}
}

func TestIsAsAPlainOne(t *testing.T) {
	for seed, far := range []int{1, 2, 8, 60, 64, 70, 128, 200, 1000, 5000, 1 << 30} {
		r := rand.New(rand.NewSource(int64(seed)))
		w, p := wheel.New[int](), &plain{}
		for range 4000 {
			walk(t, r, w, p, far)
		}
		wantThings(t, w.Advance(math.MaxInt), p.advance(math.MaxInt))
		wantState(t, w, math.MaxInt, 0)
	}
}

func TestEachIsToldOnceOrCancelledOrThereStill(t *testing.T) {
	r := rand.New(rand.NewSource(7))
	w := wheel.New[int]()
	const (
		unset = iota
		there
		told
		cancelled
	)
	fate, moment := map[int]int{}, map[int]int{}
	for range 20000 {
		switch r.Intn(4) {
		case 0, 1:
			due := w.Now() + r.Intn(300) - 30
			if id, e := w.Set(due, len(fate)+1); e == api.OK {
				if fate[id] != unset {
					t.Fatal("a number was given twice:", id)
				}
				fate[id], moment[id] = there, due
			}
		case 2:
			id := r.Intn(len(fate) + 2)
			if w.Cancel(id) != (fate[id] == there) {
				t.Fatal("Cancel of", id, fate[id])
			}
			if fate[id] == there {
				fate[id] = cancelled
			}
		case 3:
			for _, id := range w.Advance(w.Now() + r.Intn(5)) {
				if fate[id] != there || moment[id] > w.Now() {
					t.Fatal("told:", id, fate[id], moment[id], w.Now())
				}
				fate[id] = told
			}
			for id, x := range fate {
				if x == there && moment[id] <= w.Now() {
					t.Fatal("not told:", id)
				}
			}
		}
		n := 0
		for _, x := range fate {
			if x == there {
				n++
			}
		}
		wantState(t, w, w.Now(), n)
	}
}

// some is a wheel at the time now of n timers, some of which are behind already.
func some(seed int64, now, n, far int) *wheel.Wheel[int] {
	r := rand.New(rand.NewSource(seed))
	w := wheel.New[int]()
	w.Advance(now)
	for i := range n {
		w.Set(max(0, now-far/8+r.Intn(far)), i)
		if r.Intn(5) == 0 {
			w.Cancel(1 + r.Intn(i+1))
		}
	}
	return w
}

func TestInStepsAndAtOnce(t *testing.T) {
	for seed := range int64(20) {
		for _, far := range []int{1, 10, 64, 65, 300, 3000} {
			now := []int{0, 63, 500}[seed%3]
			n := 1 + int(seed)*13
			end := now + far
			want := some(seed, now, n, far).Advance(end)
			for _, step := range []int{1, 2, 3, 7, 63, 64, 65, 129} {
				w, got := some(seed, now, n, far), []int{}
				for to := now; to < end; to += step {
					got = append(got, w.Advance(to)...)
					got = append(got, w.Advance(to-step)...) // back is no step
				}
				got = append(got, w.Advance(end)...)
				wantThings(t, got, want)
				wantState(t, w, end, 0)
			}
		}
	}
}
