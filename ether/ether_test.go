package ether_test

import (
	"fmt"
	"math"
	"strings"
	"testing"

	"blockyard/api"
	"blockyard/ether"
)

const (
	headSize = 14
	maxData  = api.MaxFrame - headSize
)

// The addresses and their bytes of the frames here, all unlike.
var (
	one = api.Mac{1, 2, 3, 4, 5, 6}
	two = api.Mac{10, 11, 12, 13, 14, 15}
)

const (
	oneBytes = "\x01\x02\x03\x04\x05\x06"
	twoBytes = "\x0a\x0b\x0c\x0d\x0e\x0f"
)

// told is f for a reader, whatever its bytes are.
func told(f api.Frame) string {
	return fmt.Sprintf("{%v %v %d %q}", f.To, f.From, f.Type, f.Data)
}

func wantBytes(t *testing.T, f api.Frame, want string) {
	t.Helper()
	if s, e := ether.Bytes(f); s != want || e != api.OK {
		t.Fatalf("Bytes(%s): %q, %d, not %q", told(f), s, e, want)
	}
}

func wantNoBytes(t *testing.T, f api.Frame, want api.Errno) {
	t.Helper()
	if s, e := ether.Bytes(f); s != "" || e != want {
		t.Fatalf("Bytes of type %d and %d bytes of data: %q, %d, not error %d", f.Type, len(f.Data), s, e, want)
	}
}

func wantRead(t *testing.T, s string, want api.Frame) {
	t.Helper()
	if f, e := ether.Read(s); f != want || e != api.OK {
		t.Fatalf("Read(%q): %s, %d, not %s", s, told(f), e, told(want))
	}
}

func wantNoRead(t *testing.T, s string, want api.Errno) {
	t.Helper()
	if f, e := ether.Read(s); f != (api.Frame{}) || e != want {
		t.Fatalf("Read of %d bytes: %s, %d, not error %d", len(s), told(f), e, want)
	}
}

// anyBytes is n bytes, of which any 256 side by side are all the bytes there are.
func anyBytes(n int) string {
	b := make([]byte, n)
	for i := range b {
		b[i] = byte(255 - i)
	}
	return string(b)
}

// wrongTypes are those that two bytes do not hold, on either side of the ones that they do, far off, and such that their lowest bytes look well.
func wrongTypes() []int {
	return []int{-1, -2, -2048, -65535, -65536, -65536 + 2048, math.MinInt, math.MinInt + 2048,
		65536, 65537, 65536 + 2048, 1 << 20, 1 << 32, 1<<32 + 2048, math.MaxInt, math.MaxInt - 65535}
}

// P6.1: Bytes

func TestBytesOfTheExample(t *testing.T) {
	wantBytes(t, api.Frame{To: one, From: two, Type: 2048, Data: "hi"}, oneBytes+twoBytes+"\x08\x00hi")
}

func TestBytesOfEachType(t *testing.T) {
	for x := range 65536 {
		wantBytes(t, api.Frame{To: one, From: two, Type: x}, oneBytes+twoBytes+string([]byte{byte(x / 256), byte(x % 256)}))
	}
}

func TestBytesOfNoData(t *testing.T) {
	wantBytes(t, api.Frame{}, strings.Repeat("\x00", 14))
	wantBytes(t, api.Frame{To: one, From: two, Type: api.TypeArp}, oneBytes+twoBytes+"\x08\x06")
}

func TestBytesOfEachAddress(t *testing.T) {
	wantBytes(t, api.Frame{To: ether.Everybody(), From: one, Type: 1, Data: "x"}, "\xff\xff\xff\xff\xff\xff"+oneBytes+"\x00\x01x")
	wantBytes(t, api.Frame{To: one, From: ether.Everybody(), Type: 1, Data: "x"}, oneBytes+"\xff\xff\xff\xff\xff\xff\x00\x01x")
	wantBytes(t, api.Frame{To: one, From: one, Type: 1}, oneBytes+oneBytes+"\x00\x01")
	wantBytes(t, api.Frame{From: one}, "\x00\x00\x00\x00\x00\x00"+oneBytes+"\x00\x00")
}

func TestBytesOfAnyData(t *testing.T) {
	head := oneBytes + twoBytes + "\xff\xff"
	for _, data := range []string{"\x00", "\xff", "\x00\xff\x00", "é", "\xc3\x28", "a\nb", anyBytes(256), anyBytes(maxData)} {
		wantBytes(t, api.Frame{To: one, From: two, Type: 65535, Data: data}, head+data)
	}
}

func TestBytesOfEachLength(t *testing.T) {
	for n := range 2 * api.MaxFrame {
		f := api.Frame{To: one, From: two, Type: 2048, Data: anyBytes(n)}
		if n <= 586 {
			wantBytes(t, f, oneBytes+twoBytes+"\x08\x00"+f.Data)
		} else {
			wantNoBytes(t, f, api.ErrLong)
		}
	}
}

func TestBytesOfTheLongest(t *testing.T) {
	s, e := ether.Bytes(api.Frame{Data: strings.Repeat("x", 586)})
	if len(s) != 600 || e != api.OK {
		t.Errorf("586 bytes of data: %d bytes, %d", len(s), e)
	}
	for _, n := range []int{587, 588, 600, 601, 1500, 65535, 65536, 65536 + 10, 1 << 20} {
		wantNoBytes(t, api.Frame{To: one, From: two, Type: 2048, Data: strings.Repeat("x", n)}, api.ErrLong)
	}
}

func TestBytesOfWrongTypes(t *testing.T) {
	for _, x := range wrongTypes() {
		// ErrArg is ahead of ErrLong.
		for _, n := range []int{0, 2, 586, 587, 900, 65536} {
			wantNoBytes(t, api.Frame{To: one, From: two, Type: x, Data: anyBytes(n)}, api.ErrArg)
		}
	}
}

// P6.1: Read

func TestReadOfTheExample(t *testing.T) {
	wantRead(t, oneBytes+twoBytes+"\x08\x00hi", api.Frame{To: one, From: two, Type: 2048, Data: "hi"})
}

func TestReadOfEachType(t *testing.T) {
	for x := range 65536 {
		wantRead(t, oneBytes+twoBytes+string([]byte{byte(x / 256), byte(x % 256)}), api.Frame{To: one, From: two, Type: x})
	}
}

func TestReadOfFourteenBytes(t *testing.T) {
	wantRead(t, strings.Repeat("\x00", 14), api.Frame{})
	wantRead(t, strings.Repeat("\xff", 14), api.Frame{To: ether.Everybody(), From: ether.Everybody(), Type: 65535})
	wantRead(t, oneBytes+twoBytes+"\x08\x06", api.Frame{To: one, From: two, Type: api.TypeArp})
}

func TestReadOfAnyData(t *testing.T) {
	for _, data := range []string{"\x00", "\xff", "\x00\xff\x00", "é", "\xc3\x28", "a\nb", anyBytes(256), anyBytes(maxData)} {
		wantRead(t, twoBytes+oneBytes+"\x00\xff"+data, api.Frame{To: two, From: one, Type: 255, Data: data})
	}
}

func TestReadOfEachLength(t *testing.T) {
	whole := oneBytes + twoBytes + "\x08\x00" + anyBytes(2*api.MaxFrame)
	for n := range len(whole) {
		switch {
		case n < 14:
			wantNoRead(t, whole[:n], api.ErrShort)
		case n <= 600:
			wantRead(t, whole[:n], api.Frame{To: one, From: two, Type: 2048, Data: whole[14:n]})
		default:
			wantNoRead(t, whole[:n], api.ErrLong)
		}
	}
}

func TestReadOfWrongLengths(t *testing.T) {
	for _, n := range []int{0, 1, 5, 6, 11, 12, 13} {
		wantNoRead(t, anyBytes(n), api.ErrShort)
	}
	for _, n := range []int{601, 602, 614, 615, 1500, 65535, 65536, 65536 + 100, 1 << 20} {
		wantNoRead(t, anyBytes(n), api.ErrLong)
	}
}

// P6.2

func TestEverybody(t *testing.T) {
	want := api.Mac{255, 255, 255, 255, 255, 255}
	all := ether.Everybody()
	if all != want {
		t.Fatalf("Everybody: %v", all)
	}
	all[0], all[5] = 1, 2
	if ether.Everybody() != want {
		t.Errorf("an answer that is changed changes the next one: %v", ether.Everybody())
	}
}

func wantFor(t *testing.T, to, me api.Mac, want bool) {
	t.Helper()
	// Nothing but where it goes counts: neither from whom, nor what else is in it, right or wrong.
	for _, f := range []api.Frame{
		{To: to},
		{To: to, From: me, Type: 2048, Data: "hi"},
		{To: to, From: ether.Everybody(), Type: api.TypeArp, Data: string(me[:])},
		{To: to, From: to, Type: -1, Data: anyBytes(maxData + 1)},
		{To: to, From: two, Type: 65536},
	} {
		if ether.For(f, me) != want {
			t.Fatalf("For(%s, %v) is not %v", told(f), me, want)
		}
	}
}

func TestForMe(t *testing.T) {
	wantFor(t, one, one, true)
	wantFor(t, two, two, true)
	wantFor(t, api.Mac{}, api.Mac{}, true)
}

func TestForEverybody(t *testing.T) {
	all := ether.Everybody()
	for _, me := range []api.Mac{one, two, {}, {5: 1}, {255, 255, 255, 255, 255, 254}, all} {
		wantFor(t, all, me, true)
	}
}

func TestForAnother(t *testing.T) {
	wantFor(t, one, two, false)
	wantFor(t, two, one, false)
	wantFor(t, api.Mac{}, one, false)
	wantFor(t, one, api.Mac{}, false)
	wantFor(t, api.Mac{6, 5, 4, 3, 2, 1}, one, false)
	// Everybody's address as one's own is no reason to take what goes to another.
	wantFor(t, one, ether.Everybody(), false)
	wantFor(t, api.Mac{}, ether.Everybody(), false)
}

func TestForWhatDiffersInOneBit(t *testing.T) {
	for _, me := range []api.Mac{one, two, {}, {0x80, 0x01, 0x7f, 0xfe, 0x55, 0xaa}} {
		for i := range 48 {
			near := me
			near[i/8] ^= 1 << (i % 8)
			wantFor(t, near, me, false)
			wantFor(t, me, near, false)
		}
	}
}

func TestForWhatIsNearlyEverybody(t *testing.T) {
	all := ether.Everybody()
	for i := range 48 {
		near := all
		near[i/8] ^= 1 << (i % 8)
		wantFor(t, near, one, false)
		wantFor(t, near, all, false)
		wantFor(t, near, near, true)
		wantFor(t, all, near, true)
	}
}

func TestForWhatDiffersInOneByte(t *testing.T) {
	for i := range 6 {
		for x := range 256 {
			near, most := one, ether.Everybody()
			near[i], most[i] = byte(x), byte(x)
			wantFor(t, near, one, near == one)
			wantFor(t, most, one, x == 255)
		}
	}
}
