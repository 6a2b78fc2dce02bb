package mem_test

import (
	"fmt"
	"math"
	"math/rand"
	"strings"
	"testing"

	"blockyard/api"
	"blockyard/mem"
)

// made is a memory of size bytes.
func made(t *testing.T, size int) *mem.Mem {
	t.Helper()
	m, e := mem.New(size)
	if e != api.OK || m == nil {
		t.Fatalf("New(%d): %v, %d", size, m, e)
	}
	return m
}

// filled is a memory of size bytes, of which byte i is i + 1.
func filled(t *testing.T, size int) (*mem.Mem, string) {
	t.Helper()
	b := make([]byte, size)
	for i := range b {
		b[i] = byte(i + 1)
	}
	m := made(t, size)
	if e := m.Write(0, string(b)); e != api.OK {
		t.Fatalf("Write of all %d bytes: %d", size, e)
	}
	return m, string(b)
}

// all is every byte of m.
func all(t *testing.T, m *mem.Mem) string {
	t.Helper()
	s, e := m.Text(0, m.Size())
	if e != api.OK || len(s) != m.Size() {
		t.Fatalf("Text of all %d bytes: %d of them, %d", m.Size(), len(s), e)
	}
	return s
}

// outside are pairs of at and n that are not in 16 bytes, of n that a number may have.
func outside() [][2]int {
	l := [][2]int{}
	for n := 1; n <= 8; n++ {
		for _, at := range []int{-1, -n, -16, 16 - n + 1, 16, 17, math.MaxInt, math.MaxInt - n, math.MaxInt - n + 1, math.MaxInt - n + 2, math.MinInt, math.MinInt + 16} {
			l = append(l, [2]int{at, n})
		}
	}
	return l
}

// nones are all the kinds of memories that New did not make.
func nones(t *testing.T) map[string]*mem.Mem {
	t.Helper()
	m, _ := filled(t, 16)
	copied := *m
	return map[string]*mem.Mem{"nil": nil, "zero": {}, "copied": &copied}
}

// P1.1

func TestNewMakesNoughts(t *testing.T) {
	for _, size := range []int{1, 2, 16, 65535, 65536} {
		m := made(t, size)
		if m.Size() != size {
			t.Errorf("New(%d): Size %d", size, m.Size())
		}
		if all(t, m) != strings.Repeat("\x00", size) {
			t.Errorf("New(%d): not all noughts", size)
		}
	}
}

func TestNewRefuses(t *testing.T) {
	for _, size := range []int{0, -1, 65537, 1 << 20, math.MaxInt, math.MinInt} {
		if m, e := mem.New(size); m != nil || e != api.ErrArg {
			t.Errorf("New(%d): %v, %d", size, m, e)
		}
	}
}

func TestSizeStays(t *testing.T) {
	m, _ := filled(t, 16)
	m.Put(8, 8, math.MaxUint64)
	m.Put(9, 8, 1)
	m.Write(16, "")
	m.Write(16, "a")
	if m.Size() != 16 {
		t.Error(m.Size())
	}
}

func TestNone(t *testing.T) {
	for name, m := range nones(t) {
		if m.Size() != 0 {
			t.Errorf("%s: Size %d", name, m.Size())
		}
		// ErrNil is ahead of the other errors, too.
		for _, x := range [][2]int{{0, 1}, {0, 0}, {0, 9}, {-1, 1}, {-1, -1}, {math.MaxInt, math.MaxInt}} {
			if n, e := m.Get(x[0], x[1]); n != 0 || e != api.ErrNil {
				t.Errorf("%s: Get%v: %d, %d", name, x, n, e)
			}
			if e := m.Put(x[0], x[1], 1); e != api.ErrNil {
				t.Errorf("%s: Put%v: %d", name, x, e)
			}
			if s, e := m.Text(x[0], x[1]); s != "" || e != api.ErrNil {
				t.Errorf("%s: Text%v: %q, %d", name, x, s, e)
			}
			if e := m.Write(x[0], "ab"); e != api.ErrNil {
				t.Errorf("%s: Write(%d): %d", name, x[0], e)
			}
			if e := m.Write(x[0], ""); e != api.ErrNil {
				t.Errorf("%s: Write(%d) of no text: %d", name, x[0], e)
			}
		}
	}
}

func TestCopyLeavesTheOriginal(t *testing.T) {
	m, want := filled(t, 16)
	c := *m
	c.Put(0, 8, 0)
	c.Write(8, "other")
	if all(t, m) != want {
		t.Error("a copy wrote into what New made")
	}
}

func TestMemoriesAreApart(t *testing.T) {
	a, b := made(t, 16), made(t, 16)
	a.Write(0, "something")
	if all(t, b) != strings.Repeat("\x00", 16) {
		t.Error("two memories share bytes")
	}
}

// P1.2

func TestGetIsLittle(t *testing.T) {
	m, _ := filled(t, 16)
	for n, want := range []uint64{0x03, 0x0403, 0x050403, 0x06050403, 0x0706050403, 0x080706050403, 0x09080706050403, 0x0a09080706050403} {
		if x, e := m.Get(2, n+1); x != want || e != api.OK {
			t.Errorf("Get(2, %d): %x, %d", n+1, x, e)
		}
	}
}

func TestPutIsLittleAndModulo(t *testing.T) {
	for n := 1; n <= 8; n++ {
		for _, at := range []int{0, 1, 7, 16 - n} {
			m, old := filled(t, 16)
			if e := m.Put(at, n, 0x8877665544332211); e != api.OK {
				t.Fatalf("Put(%d, %d): %d", at, n, e)
			}
			want := old[:at] + "\x11\x22\x33\x44\x55\x66\x77\x88"[:n] + old[at+n:]
			if got := all(t, m); got != want {
				t.Errorf("Put(%d, %d): %x, not %x", at, n, got, want)
			}
		}
	}
}

func TestNumbersOfNoLength(t *testing.T) {
	m, old := filled(t, 16)
	for _, n := range []int{0, 9, -1, -8, 16, 64, math.MaxInt, math.MinInt} {
		// ErrArg is ahead of ErrRange.
		for _, at := range []int{0, 8, 16, 17, -1, math.MaxInt, math.MinInt} {
			if x, e := m.Get(at, n); x != 0 || e != api.ErrArg {
				t.Errorf("Get(%d, %d): %d, %d", at, n, x, e)
			}
			if e := m.Put(at, n, 1); e != api.ErrArg {
				t.Errorf("Put(%d, %d): %d", at, n, e)
			}
		}
	}
	if all(t, m) != old {
		t.Error("an error changed bytes")
	}
}

func TestNumbersOutside(t *testing.T) {
	m, old := filled(t, 16)
	for _, x := range outside() {
		if n, e := m.Get(x[0], x[1]); n != 0 || e != api.ErrRange {
			t.Errorf("Get%v: %d, %d", x, n, e)
		}
		if e := m.Put(x[0], x[1], math.MaxUint64); e != api.ErrRange {
			t.Errorf("Put%v: %d", x, e)
		}
	}
	if all(t, m) != old {
		t.Error("an error changed bytes")
	}
}

func TestNumbersAtTheEnd(t *testing.T) {
	for _, size := range []int{8, 16, 65536} {
		m := made(t, size)
		for n := 1; n <= 8; n++ {
			want := uint64(math.MaxUint64) >> (64 - 8*n)
			if e := m.Put(size-n, n, math.MaxUint64); e != api.OK {
				t.Errorf("Put(%d, %d): %d", size-n, n, e)
			}
			if x, e := m.Get(size-n, n); x != want || e != api.OK {
				t.Errorf("Get(%d, %d): %x, %d", size-n, n, x, e)
			}
		}
	}
}

func TestNumbersInOneByte(t *testing.T) {
	m := made(t, 1)
	if e := m.Put(0, 1, 0x1ff); e != api.OK {
		t.Error(e)
	}
	if x, e := m.Get(0, 1); x != 0xff || e != api.OK {
		t.Error(x, e)
	}
	if x, e := m.Get(0, 2); x != 0 || e != api.ErrRange {
		t.Error(x, e)
	}
	if e := m.Put(0, 8, 1); e != api.ErrRange {
		t.Error(e)
	}
}

// P1.3

func TestTextIsTheBytes(t *testing.T) {
	m, want := filled(t, 16)
	for at := 0; at <= 16; at++ {
		for n := 0; at+n <= 16; n++ {
			if s, e := m.Text(at, n); s != want[at:at+n] || e != api.OK {
				t.Errorf("Text(%d, %d): %q, %d", at, n, s, e)
			}
		}
	}
}

func TestTextOutside(t *testing.T) {
	m, _ := filled(t, 16)
	more := [][2]int{{-1, 0}, {17, 0}, {math.MaxInt, 0}, {math.MinInt, 0}, {0, 17}, {1, 16}, {16, 1}, {0, -1}, {8, -1}, {17, -1}, {-1, -1}, {0, math.MaxInt}, {1, math.MaxInt}, {0, math.MinInt}, {math.MaxInt, math.MaxInt}, {math.MinInt, math.MinInt}, {math.MinInt, math.MaxInt}, {math.MaxInt, math.MinInt}}
	for _, x := range append(outside(), more...) {
		if s, e := m.Text(x[0], x[1]); s != "" || e != api.ErrRange {
			t.Errorf("Text%v: %q, %d", x, s, e)
		}
	}
}

func TestTextStays(t *testing.T) {
	m, want := filled(t, 16)
	s := all(t, m)
	m.Write(0, "something else..")
	if s != want {
		t.Error("a text that was answered is changed by a later call")
	}
}

func TestWriteIsTheBytes(t *testing.T) {
	for at := 0; at <= 16; at++ {
		for n := 0; at+n <= 16; n++ {
			m, old := filled(t, 16)
			s := strings.Repeat("\xff\x00", 8)[:n]
			if e := m.Write(at, s); e != api.OK {
				t.Errorf("Write(%d) of %d: %d", at, n, e)
			}
			if got := all(t, m); got != old[:at]+s+old[at+n:] {
				t.Errorf("Write(%d) of %d: %x", at, n, got)
			}
		}
	}
}

func TestWriteOutside(t *testing.T) {
	m, old := filled(t, 16)
	for _, x := range append(outside(), [2]int{-1, 0}, [2]int{17, 0}, [2]int{math.MaxInt, 0}, [2]int{math.MinInt, 0}, [2]int{0, 17}, [2]int{1, 16}, [2]int{0, 65537}) {
		if e := m.Write(x[0], strings.Repeat("\xff", x[1])); e != api.ErrRange {
			t.Errorf("Write%v: %d", x, e)
		}
	}
	if all(t, m) != old {
		t.Error("an error changed bytes")
	}
}

func TestWriteOfAll(t *testing.T) {
	for _, size := range []int{1, 65536} {
		m := made(t, size)
		s := strings.Repeat("\xa5", size)
		if e := m.Write(0, s); e != api.OK || all(t, m) != s {
			t.Errorf("Write of %d bytes: %d", size, e)
		}
		if e := m.Write(0, s+"\xa5"); e != api.ErrRange {
			t.Errorf("Write of a byte more than %d: %d", size, e)
		}
		if e := m.Write(size, ""); e != api.OK {
			t.Errorf("Write of no text at the end: %d", e)
		}
	}
}

// P1.5

func TestWhatIsPutIsGot(t *testing.T) {
	const size = 40
	r := rand.New(rand.NewSource(1))
	m, old := filled(t, size)
	model := []byte(old)
	for i := range 20000 {
		at, n, x := r.Intn(size+4)-2, r.Intn(11)-1, r.Uint64()
		tale := ""
		if r.Intn(2) == 0 {
			tale = putBoth(m, model, at, n, x)
		} else {
			tale = writeBoth(m, model, at, mem.Big(x, n))
		}
		if tale != "" || all(t, m) != string(model) {
			t.Fatalf("step %d: %s, then %x, not %x", i, tale, all(t, m), model)
		}
	}
}

// putBoth puts a number into a memory and its model, and tells what is wrong.
func putBoth(m *mem.Mem, model []byte, at, n int, x uint64) string {
	want, e := api.OK, m.Put(at, n, x)
	switch {
	case n < 1 || n > 8:
		want = api.ErrArg
	case at < 0 || at+n > len(model):
		want = api.ErrRange
	default:
		for i := range n {
			model[at+i] = byte(x)
			x >>= 8
		}
	}
	got, again := m.Get(at, n)
	back := uint64(0)
	for i := n - 1; want == api.OK && i >= 0; i-- {
		back = back<<8 | uint64(model[at+i])
	}
	if e != want || again != want || got != back {
		return fmt.Sprintf("Put, Get(%d, %d): %d, %d, %x, not %d, %x", at, n, e, again, got, want, back)
	}
	return ""
}

// writeBoth writes a text into a memory and its model, and tells what is wrong.
func writeBoth(m *mem.Mem, model []byte, at int, s string) string {
	want, back, e := api.OK, s, m.Write(at, s)
	if at < 0 || at+len(s) > len(model) {
		want, back = api.ErrRange, ""
	} else {
		copy(model[at:], s)
	}
	if got, again := m.Text(at, len(s)); e != want || again != want || got != back {
		return fmt.Sprintf("Write, Text(%d, %q): %d, %d, %q, not %d, %q", at, s, e, again, got, want, back)
	}
	return ""
}

// The chapter's examples.

func TestExamplesOfPut(t *testing.T) {
	m := made(t, 16)
	if e := m.Put(2, 4, 258); e != api.OK {
		t.Error(e)
	}
	if s, e := m.Text(0, 8); s != "\x00\x00\x02\x01\x00\x00\x00\x00" || e != api.OK {
		t.Errorf("%x, %d", s, e)
	}
	if x, e := m.Get(3, 2); x != 1 || e != api.OK {
		t.Error(x, e)
	}
	if x, e := m.Get(13, 4); x != 0 || e != api.ErrRange {
		t.Error(x, e)
	}
	if x, e := m.Get(0, 9); x != 0 || e != api.ErrArg {
		t.Error(x, e)
	}
	if x, e := m.Get(-1, 1); x != 0 || e != api.ErrRange {
		t.Error(x, e)
	}
}

func TestExamplesOfWrite(t *testing.T) {
	m := made(t, 16)
	if e := m.Write(14, "ab"); e != api.OK {
		t.Error(e)
	}
	if e := m.Write(15, "ab"); e != api.ErrRange {
		t.Error(e)
	}
	if s, e := m.Text(14, 2); s != "ab" || e != api.OK {
		t.Errorf("%q, %d", s, e)
	}
	if s, e := m.Text(16, 0); s != "" || e != api.OK {
		t.Errorf("%q, %d", s, e)
	}
}
