package icmp_test

import (
	"fmt"
	"math"
	"strings"
	"testing"

	"blockyard/api"
	"blockyard/icmp"
)

// text is n bytes, of which those that stand near one another are unlike.
func text(n int) string {
	b := make([]byte, n)
	x := uint32(n)
	for i := range b {
		x = x*1664525 + 1013904223
		b[i] = byte(x >> 24)
	}
	return string(b)
}

// told is m short enough to be shown.
func told(m api.Icmp) string {
	return fmt.Sprintf("{Kind %d Code %d Rest %#x Data %.20q.. (%d)}", m.Kind, m.Code, m.Rest, m.Data, len(m.Data))
}

// total is all pairs of s, big, added, modulo 65535: the sum is 0 just where that is nought and s has a byte that is not.
func total(s string) int {
	x := 0
	for i := range len(s) {
		x = (x + int(s[i])<<(8-8*(i%2))) % 65535
	}
	return x
}

// plainSum is a text's sum by other means than folding.
func plainSum(s string) int {
	if total(s) == 0 && strings.Trim(s, "\x00") != "" {
		return 0
	}
	return 65535 - total(s)
}

// raw is the bytes of parts, whatever they are, with the right sum.
func raw(kind, code byte, rest uint32, data string) string {
	tail := string([]byte{byte(rest >> 24), byte(rest >> 16), byte(rest >> 8), byte(rest)}) + data
	sum := plainSum(string([]byte{kind, code, 0, 0}) + tail)
	return string([]byte{kind, code, byte(sum >> 8), byte(sum)}) + tail
}

// rawOf is the bytes that m has, if it may go.
func rawOf(m api.Icmp) string {
	return raw(byte(m.Kind), byte(m.Code), m.Rest, m.Data)
}

// turned is s with its bit i turned.
func turned(s string, i int) string {
	b := []byte(s)
	b[i/8] ^= 1 << (i % 8)
	return string(b)
}

func wantBytes(t *testing.T, m api.Icmp, want string) {
	t.Helper()
	if s, e := icmp.Bytes(m); s != want || e != api.OK {
		t.Fatalf("Bytes(%s): %.40q (%d), %d, not %.40q (%d)", told(m), s, len(s), e, want, len(want))
	}
}

func wantNoBytes(t *testing.T, m api.Icmp, want api.Errno) {
	t.Helper()
	if s, e := icmp.Bytes(m); s != "" || e != want {
		t.Fatalf("Bytes(%s): %.40q, %d, not error %d", told(m), s, e, want)
	}
}

func wantRead(t *testing.T, s string, want api.Icmp) {
	t.Helper()
	if m, e := icmp.Read(s); m != want || e != api.OK {
		t.Fatalf("Read(%.40q (%d)): %s, %d, not %s", s, len(s), told(m), e, told(want))
	}
}

func wantNoRead(t *testing.T, s string, want api.Errno) {
	t.Helper()
	if m, e := icmp.Read(s); m != (api.Icmp{}) || e != want {
		t.Fatalf("Read(%.40q (%d)): %s, %d, not error %d", s, len(s), told(m), e, want)
	}
}

func wantEcho(t *testing.T, m, want api.Icmp) {
	t.Helper()
	if got, ok := icmp.Echo(m); got != want || !ok {
		t.Fatalf("Echo(%s): %s, %v, not %s", told(m), told(got), ok, told(want))
	}
}

func wantNoEcho(t *testing.T, m api.Icmp) {
	t.Helper()
	if got, ok := icmp.Echo(m); got != (api.Icmp{}) || ok {
		t.Fatalf("Echo(%s): %s, %v, not false", told(m), told(got), ok)
	}
}

func wantUnreachable(t *testing.T, code int, packet string, wantCode int, wantData string) {
	t.Helper()
	want := api.Icmp{Kind: 3, Code: wantCode, Data: wantData}
	if m := icmp.Unreachable(code, packet); m != want {
		t.Fatalf("Unreachable(%d, %.20q (%d)): %s, not %s", code, packet, len(packet), told(m), told(want))
	}
}

// noBytes are numbers that one byte does not hold, on either side of those that it does, far off, and such that their lowest bytes look well.
func noBytes() []int {
	return []int{-1, -2, -248, -255, -256, -65536, math.MinInt, math.MinInt + 8, 256, 257, 256 + 8, 511, 512, 65535, 65536 + 8, 1 << 20, 1 << 32, 1<<32 + 8, math.MaxInt, math.MaxInt - 255}
}

// rests are some that differ in each of their bytes, and those at either end.
func rests() []uint32 {
	return []uint32{0, 1, 2, 255, 256, 65535, 65536, 1<<24 - 1, 1 << 24, 0x12345678, 0x78563412, 1<<31 - 1, 1 << 31, math.MaxUint32 - 1, math.MaxUint32}
}

// texts are Data that need not be words.
func texts() []string {
	return []string{"", "\x00", "\xff", "\x00\x00", "\xff\xff", "\x00\xff\x00", "h", "hi", "é", "\xc3\x28", "a\nb", text(39), text(40), text(557), text(558), strings.Repeat("\x00", 558), strings.Repeat("\xff", 557), strings.Repeat("\xff", 558)}
}

// P9.1: Bytes

func TestMaxIcmp(t *testing.T) {
	if icmp.MaxIcmp != 558 {
		t.Error(icmp.MaxIcmp)
	}
}

func TestBytesOfTheExample(t *testing.T) {
	wantBytes(t, api.Icmp{Kind: 8, Code: 0, Rest: 1, Data: "hi"}, "\x08\x00\x8f\x95\x00\x00\x00\x01hi")
}

func TestBytesOfEachKindAndCode(t *testing.T) {
	for kind := range 256 {
		for code := range 256 {
			wantBytes(t, api.Icmp{Kind: kind, Code: code, Rest: 0x01020304, Data: "x"}, raw(byte(kind), byte(code), 0x01020304, "x"))
		}
	}
}

// The sums here are worked out by hand.
func TestBytesAtTheEnds(t *testing.T) {
	wantBytes(t, api.Icmp{}, "\x00\x00\xff\xff\x00\x00\x00\x00")
	wantBytes(t, api.Icmp{Kind: 255, Code: 255, Rest: math.MaxUint32}, "\xff\xff\x00\x00\xff\xff\xff\xff")
	wantBytes(t, api.Icmp{Kind: 255}, "\xff\x00\x00\xff\x00\x00\x00\x00")
	wantBytes(t, api.Icmp{Code: 255}, "\x00\xff\xff\x00\x00\x00\x00\x00")
	wantBytes(t, api.Icmp{Rest: math.MaxUint32}, "\x00\x00\x00\x00\xff\xff\xff\xff")
	wantBytes(t, api.Icmp{Rest: 0x80000001}, "\x00\x00\x7f\xfe\x80\x00\x00\x01")
	wantBytes(t, api.Icmp{Data: "\x01"}, "\x00\x00\xfe\xff\x00\x00\x00\x00\x01")
	wantBytes(t, api.Icmp{Kind: 1, Code: 2, Rest: 0x03040506, Data: "\x07\x08\x09"}, "\x01\x02\xe6\xeb\x03\x04\x05\x06\x07\x08\x09")
}

func TestBytesOfEachRest(t *testing.T) {
	for _, rest := range rests() {
		for _, data := range texts() {
			wantBytes(t, api.Icmp{Kind: 8, Rest: rest, Data: data}, raw(8, 0, rest, data))
		}
	}
	for i := range 4 {
		for x := range 256 {
			rest := uint32(x) << (8 * i)
			wantBytes(t, api.Icmp{Kind: 3, Code: 2, Rest: rest}, raw(3, 2, rest, ""))
		}
	}
}

func TestBytesOfEachSum(t *testing.T) {
	for x := range 65536 {
		rest := uint32(x)<<16 | 0xffff // so that all sums come, those at either end too
		wantBytes(t, api.Icmp{Rest: rest}, raw(0, 0, rest, ""))
		wantBytes(t, api.Icmp{Rest: uint32(x)}, raw(0, 0, uint32(x), ""))
	}
}

func TestBytesOfEachLength(t *testing.T) {
	for n := range 1200 {
		m := api.Icmp{Kind: 8, Rest: 0x12340001, Data: text(n)}
		if n > 558 {
			wantNoBytes(t, m, api.ErrLong)
			continue
		}
		wantBytes(t, m, raw(8, 0, 0x12340001, text(n)))
		if s, _ := icmp.Bytes(m); len(s) != n+8 {
			t.Fatalf("%d bytes of Data: %d bytes", n, len(s))
		}
	}
	for _, n := range []int{1500, 65535, 65536, 65536 + 10, 1 << 20} {
		wantNoBytes(t, api.Icmp{Kind: 8, Data: text(n)}, api.ErrLong)
	}
}

func TestBytesOfWrongKindsAndCodes(t *testing.T) {
	for _, x := range noBytes() {
		wantNoBytes(t, api.Icmp{Kind: x}, api.ErrArg)
		wantNoBytes(t, api.Icmp{Code: x}, api.ErrArg)
		wantNoBytes(t, api.Icmp{Kind: x, Code: x, Rest: 7, Data: "hi"}, api.ErrArg)
		for _, good := range []int{0, 1, 8, 128, 255} {
			wantNoBytes(t, api.Icmp{Kind: x, Code: good, Rest: math.MaxUint32, Data: text(558)}, api.ErrArg)
			wantNoBytes(t, api.Icmp{Kind: good, Code: x, Rest: math.MaxUint32, Data: text(558)}, api.ErrArg)
		}
	}
	for x := -1000; x < 2000; x++ {
		if x < 0 || x > 255 {
			wantNoBytes(t, api.Icmp{Kind: x}, api.ErrArg)
			wantNoBytes(t, api.Icmp{Code: x}, api.ErrArg)
		}
	}
}

// What may not be is told ahead of what is too long.
func TestBytesTellsTheFirstFault(t *testing.T) {
	for _, n := range []int{559, 560, 900, 65536} {
		for _, x := range noBytes() {
			wantNoBytes(t, api.Icmp{Kind: x, Data: text(n)}, api.ErrArg)
			wantNoBytes(t, api.Icmp{Code: x, Data: text(n)}, api.ErrArg)
		}
		wantNoBytes(t, api.Icmp{Kind: 255, Code: 255, Rest: math.MaxUint32, Data: text(n)}, api.ErrLong)
	}
}

// P9.1: Read

func TestReadOfTheExample(t *testing.T) {
	s := "\x08\x00\x8f\x95\x00\x00\x00\x01hi"
	wantRead(t, s, api.Icmp{Kind: 8, Rest: 1, Data: "hi"})
	wantNoRead(t, s[:9], api.ErrSum)
	wantNoRead(t, s[:7], api.ErrShort)
}

func TestReadOfEachKindAndCode(t *testing.T) {
	for kind := range 256 {
		for code := range 256 {
			wantRead(t, raw(byte(kind), byte(code), 0xfedcba98, "xyz"), api.Icmp{Kind: kind, Code: code, Rest: 0xfedcba98, Data: "xyz"})
		}
	}
}

// The sums here are worked out by hand.
func TestReadAtTheEnds(t *testing.T) {
	wantRead(t, "\x00\x00\xff\xff\x00\x00\x00\x00", api.Icmp{})
	wantRead(t, "\xff\xff\x00\x00\xff\xff\xff\xff", api.Icmp{Kind: 255, Code: 255, Rest: math.MaxUint32})
	wantRead(t, "\x00\x00\xfe\xff\x00\x00\x00\x00\x01", api.Icmp{Data: "\x01"})
	wantRead(t, "\x01\x02\xe6\xeb\x03\x04\x05\x06\x07\x08\x09", api.Icmp{Kind: 1, Code: 2, Rest: 0x03040506, Data: "\x07\x08\x09"})
	wantNoRead(t, "\x00\x00\x00\x00\x00\x00\x00\x00", api.ErrSum) // noughts have the sum 65535
	wantNoRead(t, "\x01\x02\xeb\xe6\x03\x04\x05\x06\x07\x08\x09", api.ErrSum)
}

func TestReadOfEachRest(t *testing.T) {
	for _, rest := range rests() {
		for _, data := range texts() {
			wantRead(t, raw(8, 0, rest, data), api.Icmp{Kind: 8, Rest: rest, Data: data})
		}
	}
	for i := range 4 {
		for x := range 256 {
			rest := uint32(x) << (8 * i)
			wantRead(t, raw(3, 2, rest, ""), api.Icmp{Kind: 3, Code: 2, Rest: rest})
		}
	}
}

func TestReadOfEachLength(t *testing.T) {
	for n := range 1200 {
		if n < 8 {
			for _, s := range []string{text(n), strings.Repeat("\x00", n), strings.Repeat("\xff", n), raw(8, 0, 1, "hi")[:n], "\x00\x00\xff\xff\x00\x00\x00\x00"[:n]} {
				wantNoRead(t, s, api.ErrShort)
			}
			continue
		}
		m := api.Icmp{Kind: 8, Rest: 0x12340001, Data: text(n - 8)}
		if n <= 566 {
			wantRead(t, rawOf(m), m)
		} else {
			wantNoRead(t, rawOf(m), api.ErrLong)
		}
	}
	for _, n := range []int{1500, 65535, 65536, 65536 + 8, 65536 + 100, 1 << 20} {
		wantNoRead(t, rawOf(api.Icmp{Kind: 8, Data: text(n - 8)}), api.ErrLong)
	}
}

// Of all that two bytes may be there is one sum that is right.
func TestReadOfEachSum(t *testing.T) {
	for _, m := range []api.Icmp{{Kind: 8, Rest: 1, Data: "hi"}, {Kind: 8, Rest: 1, Data: "odd"}, {Kind: 3, Code: 2, Data: text(28)}, {}} {
		s := rawOf(m)
		for x := range 65536 {
			b := []byte(s)
			b[2], b[3] = byte(x>>8), byte(x)
			if string(b) == s {
				wantRead(t, string(b), m)
			} else {
				wantNoRead(t, string(b), api.ErrSum)
			}
		}
	}
}

// All bytes count for the sum, the Data's last one too, with an odd number of them too.
func TestReadOfTurnedBits(t *testing.T) {
	for _, m := range []api.Icmp{
		{}, {Kind: 255, Code: 255, Rest: math.MaxUint32}, {Kind: 8, Rest: 1, Data: "h"}, {Kind: 8, Rest: 1, Data: "hi"},
		{Data: "\x00"}, {Rest: 0xffff0000}, {Kind: 3, Code: 1, Data: text(28)}, {Kind: 8, Rest: 0x12340001, Data: text(557)}, {Kind: 8, Rest: 0x12340001, Data: text(558)},
		{Data: strings.Repeat("\x00", 558)}, {Kind: 255, Code: 255, Rest: math.MaxUint32, Data: strings.Repeat("\xff", 558)},
	} {
		s := rawOf(m)
		wantRead(t, s, m)
		for i := range 8 * len(s) {
			wantNoRead(t, turned(s, i), api.ErrSum)
		}
	}
}

func TestReadOfOtherBytes(t *testing.T) {
	s := raw(8, 0, 0x12345678, "data")
	for i := range len(s) {
		for x := range 256 {
			b := []byte(s)
			b[i] = byte(x)
			if string(b) == s {
				wantRead(t, s, api.Icmp{Kind: 8, Rest: 0x12345678, Data: "data"})
			} else {
				wantNoRead(t, string(b), api.ErrSum)
			}
		}
	}
}

// A text that is as it should be is not so any more without its last byte, or with others behind it, but for noughts, which are Data then.
func TestReadOfMoreOrLess(t *testing.T) {
	for _, data := range []string{"h", "hi", "hid", text(100), text(556)} {
		s := raw(8, 0, 5, data)
		wantNoRead(t, s[:len(s)-1], api.ErrSum)
		wantNoRead(t, s+"\x01", api.ErrSum)
		wantNoRead(t, s+"\x00\x01", api.ErrSum)
		wantRead(t, s+"\x00", api.Icmp{Kind: 8, Rest: 5, Data: data + "\x00"})
	}
}

// Where all else adds up to a multiple of 65535 that is not nought, two sums are right (R7): Bytes makes the one of noughts, and Read takes both.
func TestReadOfBothSums(t *testing.T) {
	for _, m := range []api.Icmp{{Kind: 255, Code: 255}, {Rest: 0xffff0000}, {Kind: 8, Rest: 0xf7ff, Data: "\xff\xff"}, {Rest: math.MaxUint32, Data: strings.Repeat("\xff", 558)}} {
		s := rawOf(m)
		if s[2:4] != "\x00\x00" {
			t.Fatalf("the sum of %s is not nought", told(m))
		}
		wantBytes(t, m, s)
		wantRead(t, s, m)
		wantRead(t, s[:2]+"\xff\xff"+s[4:], m)
	}
}

// Too few or too many bytes are told ahead of a sum that is wrong.
func TestReadTellsTheFirstFault(t *testing.T) {
	good := raw(8, 0, 1, text(560))
	for _, bad := range []string{good, turned(good, 5), turned(good, 8*30), strings.Repeat("x", 568)} {
		for n := range 8 {
			wantNoRead(t, bad[:n], api.ErrShort)
		}
		wantNoRead(t, bad, api.ErrLong)
		wantNoRead(t, bad[:567], api.ErrLong)
		wantNoRead(t, bad[:566], api.ErrSum)
		wantNoRead(t, bad[:8], api.ErrSum)
	}
	// Seven bytes and 567 ones whose sum is right are refused as well.
	if plainSum("\x00\x00\xff\xff\x00\x00\x00") != 0 || plainSum(raw(8, 0, 1, text(559))) != 0 {
		t.Fatal("these sums are not nought")
	}
	wantNoRead(t, "\x00\x00\xff\xff\x00\x00\x00", api.ErrShort)
	wantNoRead(t, raw(8, 0, 1, text(559)), api.ErrLong)
}

// P9.2: Echo

func TestEcho(t *testing.T) {
	for _, rest := range rests() {
		for _, data := range append(texts(), text(559), text(70000)) {
			wantEcho(t, api.Icmp{Kind: 8, Rest: rest, Data: data}, api.Icmp{Rest: rest, Data: data})
		}
	}
}

func TestNoEchoOfOtherKindsAndCodes(t *testing.T) {
	for kind := range 256 {
		for code := range 256 {
			if kind != 8 || code != 0 {
				wantNoEcho(t, api.Icmp{Kind: kind, Code: code, Rest: 7, Data: "hi"})
			}
		}
	}
	wantNoEcho(t, api.Icmp{})
	wantNoEcho(t, api.Icmp{Rest: 1, Data: "hi"})
	wantNoEcho(t, api.Icmp{Code: 8})
}

// What may not go asks for nothing, though its lowest bytes look well.
func TestNoEchoOfWhatMayNotBe(t *testing.T) {
	for _, x := range noBytes() {
		wantNoEcho(t, api.Icmp{Kind: x, Rest: 7, Data: "hi"})
		wantNoEcho(t, api.Icmp{Kind: 8, Code: x, Rest: 7, Data: "hi"})
		wantNoEcho(t, api.Icmp{Kind: x, Code: x})
	}
}

// P9.2: Unreachable

func TestUnreachableOfTheExamples(t *testing.T) {
	packet := "\x45\x00" + text(38)
	wantUnreachable(t, 2, packet, 2, packet[:28])
	wantUnreachable(t, -1, packet, 255, packet[:28])
}

func TestUnreachableOfEachCode(t *testing.T) {
	packet := "\x45" + text(39)
	for code := -70000; code < 70000; code++ {
		want := code % 256
		if want < 0 {
			want += 256
		}
		wantUnreachable(t, code, packet, want, packet[:28])
	}
	for code, want := range map[int]int{
		0: 0, 1: 1, 254: 254, 255: 255, 256: 0, 257: 1, 511: 255, 512: 0, -1: 255, -2: 254, -255: 1, -256: 0, -257: 255,
		1 << 32: 0, 1<<32 + 3: 3, -1 << 32: 0, math.MaxInt: 255, math.MaxInt - 1: 254, math.MinInt: 0, math.MinInt + 1: 1, math.MinInt + 255: 255,
	} {
		wantUnreachable(t, code, packet, want, packet[:28])
		wantUnreachable(t, code, "", want, "")
	}
}

func TestUnreachableOfNoBytes(t *testing.T) {
	wantUnreachable(t, 0, "", 0, "")
	wantUnreachable(t, 3, "", 3, "")
	wantUnreachable(t, -3, "", 253, "")
}

// Of the first byte the lower half counts, and no other.
func TestUnreachableOfEachFirstByteAndLength(t *testing.T) {
	for first := range 256 {
		n := 8 + 4*(first%16)
		whole := string([]byte{byte(first)}) + text(1200)
		for _, length := range []int{1, 2, 7, 8, 9, n - 4, n - 1, n, n + 1, n + 4, 67, 68, 69, 100, 586, 1201} {
			wantUnreachable(t, 2, whole[:length], 2, whole[:min(n, length)])
		}
		for length := 1; length < 80; length++ {
			wantUnreachable(t, first, whole[:length], first, whole[:min(n, length)])
		}
	}
}

func TestUnreachableAtTheEnds(t *testing.T) {
	for first, n := range map[string]int{"\x00": 8, "\x01": 12, "\x40": 8, "\x45": 28, "\x46": 32, "\x4f": 68, "\x0f": 68, "\xf0": 8, "\xff": 68} {
		whole := first + text(100)
		wantUnreachable(t, 1, whole[:1], 1, first)
		wantUnreachable(t, 1, whole[:n-1], 1, whole[:n-1])
		wantUnreachable(t, 1, whole[:n], 1, whole[:n])
		wantUnreachable(t, 1, whole[:n+1], 1, whole[:n])
		wantUnreachable(t, 1, whole, 1, whole[:n])
		wantUnreachable(t, 1, first+text(1<<17), 1, (first + text(1<<17))[:n])
	}
}
