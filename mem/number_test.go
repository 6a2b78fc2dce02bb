package mem_test

import (
	"math"
	"math/rand"
	"testing"

	"blockyard/mem"
)

// numbers are some of all sizes, and those at their edges.
func numbers() []uint64 {
	l := []uint64{0, 1, 0xff, 0x0102030405060708, 0x8877665544332211, math.MaxUint64, math.MaxUint64 - 1}
	for bit := range 64 {
		l = append(l, 1<<bit, 1<<bit-1, 1<<bit+1)
	}
	r := rand.New(rand.NewSource(2))
	for range 200 {
		l = append(l, r.Uint64()>>r.Intn(64))
	}
	return l
}

// modulo is x modulo 256^n.
func modulo(x uint64, n int) uint64 {
	if n == 8 {
		return x
	}
	return x % (1 << (8 * n))
}

// behind is s from behind.
func behind(s string) string {
	b := []byte{}
	for i := len(s) - 1; i >= 0; i-- {
		b = append(b, s[i])
	}
	return string(b)
}

// P1.4

func TestBytesOfNumbers(t *testing.T) {
	little, big := "\x11\x22\x33\x44\x55\x66\x77\x88", "\x88\x77\x66\x55\x44\x33\x22\x11"
	for n := 1; n <= 8; n++ {
		if s := mem.Little(0x8877665544332211, n); s != little[:n] {
			t.Errorf("Little, %d: %x", n, s)
		}
		if s := mem.Big(0x8877665544332211, n); s != big[8-n:] {
			t.Errorf("Big, %d: %x", n, s)
		}
		zeros := string(make([]byte, n-1))
		if mem.Little(7, n) != "\x07"+zeros || mem.Big(7, n) != zeros+"\x07" {
			t.Errorf("7 in %d bytes: %x, %x", n, mem.Little(7, n), mem.Big(7, n))
		}
	}
}

func TestBytesOfNoLength(t *testing.T) {
	for _, n := range []int{0, 9, -1, 16, 64, 65536, math.MaxInt, math.MinInt} {
		for _, x := range []uint64{0, 1, math.MaxUint64} {
			if mem.Little(x, n) != "" || mem.Big(x, n) != "" {
				t.Errorf("%d in %d bytes: %x, %x", x, n, mem.Little(x, n), mem.Big(x, n))
			}
		}
	}
}

func TestReadOfNumbers(t *testing.T) {
	s := "\xf1\xe2\xd3\xc4\xb5\xa6\x97\x88\x79\x6a"
	little := []uint64{0xe2, 0xd3e2, 0xc4d3e2, 0xb5c4d3e2, 0xa6b5c4d3e2, 0x97a6b5c4d3e2, 0x8897a6b5c4d3e2, 0x798897a6b5c4d3e2}
	big := []uint64{0xe2, 0xe2d3, 0xe2d3c4, 0xe2d3c4b5, 0xe2d3c4b5a6, 0xe2d3c4b5a697, 0xe2d3c4b5a69788, 0xe2d3c4b5a6978879}
	for i := range 8 {
		if x, ok := mem.ReadLittle(s, 1, i+1); x != little[i] || !ok {
			t.Errorf("ReadLittle, %d: %x, %v", i+1, x, ok)
		}
		if x, ok := mem.ReadBig(s, 1, i+1); x != big[i] || !ok {
			t.Errorf("ReadBig, %d: %x, %v", i+1, x, ok)
		}
	}
}

func TestReadAtTheEnds(t *testing.T) {
	s := "\x01\x02\x03\x04\x05\x06\x07\x08\x09"
	for n := 1; n <= 8; n++ {
		for _, at := range []int{0, 9 - n} {
			x, ok := mem.ReadLittle(s, at, n)
			y, also := mem.ReadBig(s, at, n)
			if !ok || !also || mem.Little(x, n) != s[at:at+n] || mem.Big(y, n) != s[at:at+n] {
				t.Errorf("at %d, %d: %x, %v, %x, %v", at, n, x, ok, y, also)
			}
		}
	}
}

// readsNothing holds that no number is at at.
func readsNothing(t *testing.T, s string, at, n int) {
	t.Helper()
	if x, ok := mem.ReadLittle(s, at, n); x != 0 || ok {
		t.Errorf("ReadLittle(%d bytes, %d, %d): %x, %v", len(s), at, n, x, ok)
	}
	if x, ok := mem.ReadBig(s, at, n); x != 0 || ok {
		t.Errorf("ReadBig(%d bytes, %d, %d): %x, %v", len(s), at, n, x, ok)
	}
}

func TestReadOfNothing(t *testing.T) {
	s := "0123456789abcdef"
	for _, n := range []int{0, 9, -1, 16, math.MaxInt, math.MinInt} {
		for _, at := range []int{0, 1, 16, -1, math.MaxInt, math.MinInt} {
			readsNothing(t, s, at, n)
		}
	}
	for _, x := range outside() {
		readsNothing(t, s, x[0], x[1])
	}
	for n := 1; n <= 8; n++ {
		readsNothing(t, "", 0, n)
		readsNothing(t, s[:n-1], 0, n)
		readsNothing(t, s[:n], 1, n)
	}
}

// P1.5

func TestBigIsLittleFromBehind(t *testing.T) {
	for _, x := range numbers() {
		for n := 1; n <= 8; n++ {
			if mem.Big(x, n) != behind(mem.Little(x, n)) {
				t.Errorf("%x in %d bytes: %x, %x", x, n, mem.Big(x, n), mem.Little(x, n))
			}
		}
	}
}

func TestWhatIsSaidIsRead(t *testing.T) {
	for _, x := range numbers() {
		for n := 1; n <= 8; n++ {
			little, big := "abc"+mem.Little(x, n)+"d", "abc"+mem.Big(x, n)+"d"
			if len(little) != n+4 || len(big) != n+4 {
				t.Fatalf("%x in %d bytes: %q, %q", x, n, little, big)
			}
			if y, ok := mem.ReadLittle(little, 3, n); y != modulo(x, n) || !ok {
				t.Errorf("%x, little, %d: %x, %v", x, n, y, ok)
			}
			if y, ok := mem.ReadBig(big, 3, n); y != modulo(x, n) || !ok {
				t.Errorf("%x, big, %d: %x, %v", x, n, y, ok)
			}
		}
	}
}

// The chapter's examples.

func TestExamplesOfNumbers(t *testing.T) {
	if mem.Little(258, 2) != "\x02\x01" || mem.Big(258, 2) != "\x01\x02" || mem.Big(258, 1) != "\x02" {
		t.Errorf("%x, %x, %x", mem.Little(258, 2), mem.Big(258, 2), mem.Big(258, 1))
	}
	if x, ok := mem.ReadBig("ab", 0, 2); x != 24930 || !ok {
		t.Error(x, ok)
	}
	if x, ok := mem.ReadBig("a", 0, 2); x != 0 || ok {
		t.Error(x, ok)
	}
}
