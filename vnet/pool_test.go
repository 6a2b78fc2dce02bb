package vnet_test

import (
	"math/rand"
	"slices"
	"testing"

	"blockyard/vnet"
)

// P4.1

func wantTake[T comparable](t *testing.T, p *vnet.Pool[T], want T) {
	t.Helper()
	if x, ok := p.Take(); x != want || !ok {
		t.Fatalf("Take: %v, %v, not %v", x, ok, want)
	}
}

func wantNoTake[T comparable](t *testing.T, p *vnet.Pool[T]) {
	t.Helper()
	var nothing T
	if x, ok := p.Take(); x != nothing || ok {
		t.Fatalf("Take of none: %v, %v", x, ok)
	}
}

func wantGive[T any](t *testing.T, p *vnet.Pool[T], want bool, x T) {
	t.Helper()
	if ok := p.Give(x); ok != want {
		t.Fatalf("Give(%v): %v", x, ok)
	}
}

func wantLen[T any](t *testing.T, p *vnet.Pool[T], want int) {
	t.Helper()
	if p.Len() != want {
		t.Fatalf("Len: %d, not %d", p.Len(), want)
	}
}

func TestPoolOfNoThings(t *testing.T) {
	for _, l := range [][]int{nil, {}, make([]int, 0, 4)} {
		p := vnet.NewPool(l)
		if p == nil {
			t.Fatal("no pool")
		}
		for range 3 {
			wantLen(t, p, 0)
			wantNoTake(t, p)
			wantGive(t, p, false, 7)
		}
	}
}

func TestPoolOfOne(t *testing.T) {
	p := vnet.NewPool([]string{"a"})
	for _, x := range []string{"a", "b", "", "c"} {
		wantLen(t, p, 1)
		wantGive(t, p, false, "other")
		wantTake(t, p, x)
		wantLen(t, p, 0)
		wantNoTake(t, p)
		wantGive(t, p, true, map[string]string{"a": "b", "b": "", "": "c"}[x])
	}
}

func TestPoolInTheOrderGiven(t *testing.T) {
	p := vnet.NewPool([]int{5, 4, 3, 2, 1})
	for _, x := range []int{5, 4, 3} {
		wantTake(t, p, x)
	}
	for _, x := range []int{4, 3, 5} {
		wantGive(t, p, true, x)
	}
	for _, x := range []int{2, 1, 4, 3, 5} {
		wantTake(t, p, x)
	}
	wantNoTake(t, p)
}

func TestPoolThatIsFull(t *testing.T) {
	p := vnet.NewPool([]int{1, 2, 3})
	for range 5 {
		wantGive(t, p, false, 9)
		wantLen(t, p, 3)
	}
	wantTake(t, p, 1)
	wantGive(t, p, true, 9)
	wantGive(t, p, false, 8)
	for _, x := range []int{2, 3, 9} {
		wantTake(t, p, x)
	}
	wantNoTake(t, p)
	// What was taken from an empty one leaves no more room than there was.
	for i := range 3 {
		wantGive(t, p, true, i)
	}
	wantGive(t, p, false, 3)
}

func TestPoolOfThingsThatAreAlike(t *testing.T) {
	p := vnet.NewPool([]int{7, 7, 0})
	wantTake(t, p, 7)
	wantTake(t, p, 7)
	wantGive(t, p, true, 7)
	wantTake(t, p, 0)
	wantTake(t, p, 7)
	wantNoTake(t, p)
}

func TestPoolKeepsNoList(t *testing.T) {
	l := []int{1, 2, 3, 4}
	p := vnet.NewPool(l[:2])
	l[0], l[1] = 8, 9
	wantTake(t, p, 1)
	wantGive(t, p, true, 5)
	wantGive(t, p, false, 6)
	wantTake(t, p, 2)
	wantTake(t, p, 5)
	if !slices.Equal(l, []int{8, 9, 3, 4}) {
		t.Error("the list that was handed in is changed:", l)
	}
}

// thingsOf holds that a pool of x and y works whatever they are.
func thingsOf[T comparable](t *testing.T, x, y T) {
	t.Helper()
	p := vnet.NewPool([]T{x, y})
	wantLen(t, p, 2)
	wantTake(t, p, x)
	wantGive(t, p, true, x)
	wantGive(t, p, false, x)
	wantTake(t, p, y)
	wantTake(t, p, x)
	wantNoTake(t, p)
	wantNoTake(t, (*vnet.Pool[T])(nil))
}

func TestPoolOfAnyThings(t *testing.T) {
	one, two := 1, 2
	thingsOf(t, uint8(1), 255)
	thingsOf(t, "", "a text")
	thingsOf(t, &one, &two)
	thingsOf(t, nil, &two)
	thingsOf(t, struct{}{}, struct{}{})
	thingsOf[any](t, nil, 3)
	thingsOf(t, [70000]byte{1}, [70000]byte{69999: 2})
	thingsOf(t, struct {
		a int
		b string
	}{1, "b"}, struct {
		a int
		b string
	}{})
}

func TestPoolOfLists(t *testing.T) {
	p := vnet.NewPool([][]int{{1}, nil})
	if x, ok := p.Take(); !ok || !slices.Equal(x, []int{1}) {
		t.Error(x, ok)
	}
	if x, ok := p.Take(); !ok || x != nil {
		t.Error(x, ok)
	}
	if x, ok := p.Take(); ok || x != nil {
		t.Error(x, ok)
	}
}

func TestPoolThatNewPoolDidNotMake(t *testing.T) {
	made := vnet.NewPool([]int{1, 2})
	wantTake(t, made, 1)
	copied := *made
	for name, p := range map[string]*vnet.Pool[int]{"nil": nil, "zero": {}, "copied": &copied} {
		if x, ok := p.Take(); x != 0 || ok || p.Give(3) || p.Len() != 0 {
			t.Errorf("%s: Take %d, %v, or Give or Len", name, x, ok)
		}
	}
	wantLen(t, made, 1)
	wantTake(t, made, 2)
	wantNoTake(t, made)
}

func TestPoolsAreApart(t *testing.T) {
	l := []int{1, 2}
	a, b := vnet.NewPool(l), vnet.NewPool(l)
	wantTake(t, a, 1)
	wantGive(t, a, true, 3)
	wantLen(t, b, 2)
	wantTake(t, b, 1)
	wantTake(t, b, 2)
	wantNoTake(t, b)
	wantLen(t, a, 2)
}

func TestPoolOfManyTakesAndGives(t *testing.T) {
	r := rand.New(rand.NewSource(1))
	for size := range 12 {
		l := []int{}
		for i := range size {
			l = append(l, i)
		}
		p := vnet.NewPool(l)
		for i := range 2000 {
			if r.Intn(2) == 0 {
				wantGive(t, p, len(l) < size, 100+i)
				if len(l) < size {
					l = append(l, 100+i)
				}
			} else if len(l) > 0 {
				wantTake(t, p, l[0])
				l = l[1:]
			} else {
				wantNoTake(t, p)
			}
			wantLen(t, p, len(l))
		}
	}
}
