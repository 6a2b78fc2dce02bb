package seg_test

import (
	"encoding/binary"
	"fmt"
	"math"
	"strings"
	"testing"

	"blockyard/api"
	"blockyard/seg"
)

// The two ends between which most segments here go.
var here, there = api.IP{10, 0, 0, 1}, api.IP{10, 0, 0, 2}

// text is n bytes, of which those that stand near one another are unlike.
func text(n int) string {
	b := make([]byte, n)
	x := uint32(n)
	for i := range b {
		x = x*1664525 + 1013904223
		b[i] = byte(x >> 24)
	}
	return string(b)
}

// told is s short enough to be shown.
func told(s api.Seg) string {
	return fmt.Sprintf("{%d to %d Seq %#x Ack %#x Flags %d Window %d MSS %d Data %.20q.. (%d)}", s.From, s.To, s.Seq, s.Ack, s.Flags, s.Window, s.MSS, s.Data, len(s.Data))
}

// plainSum is a text's sum by other means than folding: all pairs, big, added, modulo 65535; the sum is 0 just where that is nought and the text has a byte that is not.
func plainSum(s string) int {
	x := 0
	for i := range len(s) {
		x = (x + int(s[i])<<(8-8*(i%2))) % 65535
	}
	if x == 0 && strings.Trim(s, "\x00") != "" {
		return 0
	}
	return 65535 - x
}

// rightly is b with the right sum in the sum's place.
func rightly(b string, from, to api.IP) string {
	ahead := string(from[:]) + string(to[:]) + string([]byte{0, 6, byte(len(b) >> 8), byte(len(b))})
	sum := plainSum(ahead + b[:16] + "\x00\x00" + b[18:])
	return b[:16] + string([]byte{byte(sum >> 8), byte(sum)}) + b[18:]
}

// raw is a segment's bytes by their parts, whatever they are: the whole byte that tells the head's size, the whole byte of Flags, the two bytes that do not count.
type raw struct {
	from, to      uint16
	seq, ack      uint32
	units, flags  byte
	window, other uint16
	options, data string
}

// text is these bytes, with the right sum.
func (r raw) text() string {
	return r.between(here, there)
}

func (r raw) between(from, to api.IP) string {
	b := []byte{}
	b = binary.BigEndian.AppendUint16(b, r.from)
	b = binary.BigEndian.AppendUint16(b, r.to)
	b = binary.BigEndian.AppendUint32(b, r.seq)
	b = binary.BigEndian.AppendUint32(b, r.ack)
	b = append(b, r.units, r.flags)
	b = binary.BigEndian.AppendUint16(b, r.window)
	b = binary.BigEndian.AppendUint16(b, 0)
	b = binary.BigEndian.AppendUint16(b, r.other)
	return rightly(string(b)+r.options+r.data, from, to)
}

// asRaw is the parts of s, if it may go.
func asRaw(s api.Seg) raw {
	r := raw{from: uint16(s.From), to: uint16(s.To), seq: s.Seq, ack: s.Ack, units: 80, flags: byte(s.Flags), window: uint16(s.Window), data: s.Data}
	if s.MSS != 0 {
		r.units, r.options = 96, string([]byte{2, 4, byte(s.MSS >> 8), byte(s.MSS)})
	}
	return r
}

// turned is s with its bit i turned.
func turned(s string, i int) string {
	b := []byte(s)
	b[i/8] ^= 1 << (i % 8)
	return string(b)
}

func wantLen(t *testing.T, s api.Seg, want int) {
	t.Helper()
	if n := seg.Len(s); n != want {
		t.Fatalf("Len(%s): %d, not %d", told(s), n, want)
	}
}

func wantBytes(t *testing.T, s api.Seg, want string) {
	t.Helper()
	if b, e := seg.Bytes(s, here, there); b != want || e != api.OK {
		t.Fatalf("Bytes(%s): %.60x (%d), %d, not %.60x (%d)", told(s), b, len(b), e, want, len(want))
	}
}

func wantNoBytes(t *testing.T, s api.Seg, want api.Errno) {
	t.Helper()
	if b, e := seg.Bytes(s, here, there); b != "" || e != want {
		t.Fatalf("Bytes(%s): %.60x, %d, not error %d", told(s), b, e, want)
	}
}

func wantRead(t *testing.T, b string, want api.Seg) {
	t.Helper()
	if s, e := seg.Read(b, here, there); s != want || e != api.OK {
		t.Fatalf("Read(%.60x (%d)): %s, %d, not %s", b, len(b), told(s), e, told(want))
	}
}

func wantNoRead(t *testing.T, b string, want api.Errno) {
	t.Helper()
	if s, e := seg.Read(b, here, there); s != (api.Seg{}) || e != want {
		t.Fatalf("Read(%.60x (%d)): %s, %d, not error %d", b, len(b), told(s), e, want)
	}
}

// wantBoth: s has bytes, these, and is read from them.
func wantBoth(t *testing.T, s api.Seg) {
	t.Helper()
	wantBytes(t, s, asRaw(s).text())
	wantRead(t, asRaw(s).text(), s)
}

// noWords are numbers that two bytes do not hold, on either side of those that they do, far off, and such that their lowest bytes look well.
func noWords() []int {
	return []int{-1, -2, -536, -32768, -65535, -65536, -65537, math.MinInt32, math.MinInt, math.MinInt + 536, 65536, 65537, 65536 + 536, 1<<17 - 1, 1 << 20, 1 << 31, 1 << 32, 1<<32 + 536, math.MaxInt - 65535, math.MaxInt}
}

// noFlags are numbers that are not flags, likewise.
func noFlags() []int {
	return []int{-1, -2, -16, -30, -31, -32, -33, math.MinInt, math.MinInt + 2, 32, 33, 34, 48, 63, 64, 128, 255, 256, 258, 512, 65536 + 2, 1 << 32, 1<<32 + 2, math.MaxInt - 31, math.MaxInt}
}

// longs are some that differ in each of their bytes, and those at either end.
func longs() []uint32 {
	return []uint32{0, 1, 2, 255, 256, 65535, 65536, 1<<24 - 1, 1 << 24, 0x12345678, 0x78563412, 1<<31 - 1, 1 << 31, 1<<31 + 1, math.MaxUint32 - 1, math.MaxUint32}
}

// datas are Data that need not be words.
func datas() []string {
	return []string{"", "\x00", "\xff", "\x00\x00", "\xff\xff", "\x00\xff\x00", "h", "hi", "é", "\xc3\x28", "a\nb", "\x02\x04\x05\xb4", text(39), text(40), text(541), text(542), strings.Repeat("\x00", 542), strings.Repeat("\xff", 541), strings.Repeat("\xff", 542)}
}

// P10.1: Len

func TestLenOfTheExample(t *testing.T) {
	wantLen(t, api.Seg{Flags: api.Syn | api.Fin, Data: "hi"}, 4)
}

func TestLenOfAllFlags(t *testing.T) {
	for flags := range 32 {
		more := flags&1 + flags>>1&1 // Fin and Syn
		for _, data := range append(datas(), text(543), text(546), text(547), text(70000)) {
			wantLen(t, api.Seg{Flags: flags, Data: data}, len(data)+more)
		}
	}
	for flag, want := range map[int]int{0: 0, api.Fin: 1, api.Syn: 1, api.Rst: 0, api.Psh: 0, api.Ack: 0, 31: 2, 31 - api.Fin: 1, 31 - api.Syn: 1, 31 - api.Syn - api.Fin: 0} {
		wantLen(t, api.Seg{Flags: flag}, want)
		wantLen(t, api.Seg{Flags: flag, Data: "x"}, want+1)
	}
}

// Ports, numbers, the Window and the MSS are not in it.
func TestLenLooksAtDataAndFlagsAlone(t *testing.T) {
	s := api.Seg{From: 65535, To: 1, Seq: math.MaxUint32, Ack: 7, Window: 65535, MSS: 1460}
	wantLen(t, s, 0)
	s.Flags, s.Data = api.Syn|api.Ack, "abc"
	wantLen(t, s, 4)
	for _, x := range noWords() {
		wantLen(t, api.Seg{From: x, To: x, Window: x, MSS: x, Flags: api.Fin, Data: "hi"}, 3)
	}
}

// P10.1: Bytes

func TestMaxData(t *testing.T) {
	if seg.MaxData != 546 {
		t.Error(seg.MaxData)
	}
}

func TestBytesOfTheExamples(t *testing.T) {
	wantBytes(t, api.Seg{From: 1, To: 2, Seq: 3, Ack: 4, Flags: 16, Window: 5, Data: "hi"}, "\x00\x01\x00\x02\x00\x00\x00\x03\x00\x00\x00\x04\x50\x10\x00\x05\x33\x58\x00\x00hi")
	wantNoBytes(t, api.Seg{MSS: 536}, api.ErrArg)
	wantNoBytes(t, api.Seg{Flags: 32}, api.ErrArg)
}

// The sums here are worked out by hand: the addresses, 6 and 20 bytes are 141d, added.
func TestBytesOfHand(t *testing.T) {
	wantBytes(t, api.Seg{}, strings.Repeat("\x00", 12)+"\x50\x00\x00\x00\x9b\xe2\x00\x00")
	wantBytes(t, api.Seg{Flags: api.Syn, MSS: 536}, strings.Repeat("\x00", 12)+"\x60\x02\x00\x00\x87\xc0\x00\x00\x02\x04\x02\x18")
	wantBytes(t, api.Seg{Data: "\x01"}, strings.Repeat("\x00", 12)+"\x50\x00\x00\x00\x9a\xe1\x00\x00\x01")
	wantBytes(t, api.Seg{From: 65535, To: 65535, Seq: math.MaxUint32, Ack: math.MaxUint32, Window: 65535}, strings.Repeat("\xff", 12)+"\x50\x00\xff\xff\x9b\xe2\x00\x00")
}

func TestEachPort(t *testing.T) {
	for x := range 65536 {
		wantBoth(t, api.Seg{From: x, To: 9, Flags: api.Ack, Data: "x"})
		wantBoth(t, api.Seg{From: 9, To: x, Flags: api.Ack, Data: "x"})
	}
}

func TestEachWindow(t *testing.T) {
	for x := range 65536 {
		wantBoth(t, api.Seg{From: 1, To: 2, Window: x})
	}
}

func TestEachMSS(t *testing.T) {
	for x := range 65536 {
		s := api.Seg{From: 1, To: 2, Flags: api.Syn, Window: 3, MSS: x, Data: "odd"}
		wantBoth(t, s)
		s.Flags |= api.Ack
		wantBoth(t, s)
		s.Flags = api.Ack
		if x > 0 {
			wantNoBytes(t, s, api.ErrArg)
		} else {
			wantBoth(t, s)
		}
	}
}

func TestEachSeqAndAck(t *testing.T) {
	for _, x := range longs() {
		for _, y := range longs() {
			wantBoth(t, api.Seg{From: 1, To: 2, Seq: x, Ack: y, Flags: api.Ack, Data: "x"})
		}
	}
	for i := range 4 {
		for x := range 256 {
			wantBoth(t, api.Seg{Seq: uint32(x) << (8 * i)})
			wantBoth(t, api.Seg{Ack: uint32(x) << (8 * i)})
		}
	}
}

func TestAllFlags(t *testing.T) {
	for flags := range 32 {
		for _, mss := range []int{0, 1, 536, 65535} {
			s := api.Seg{From: 1, To: 2, Flags: flags, MSS: mss, Data: "data"}
			if mss > 0 && flags&2 == 0 {
				wantNoBytes(t, s, api.ErrArg)
			} else {
				wantBoth(t, s)
			}
		}
	}
	for _, flag := range []int{api.Fin, api.Syn, api.Rst, api.Psh, api.Ack} {
		b, _ := seg.Bytes(api.Seg{Flags: flag}, here, there)
		if len(b) != 20 || int(b[13]) != flag {
			t.Errorf("flag %d: %x", flag, b)
		}
	}
}

func TestEachData(t *testing.T) {
	for _, data := range datas() {
		wantBoth(t, api.Seg{Flags: api.Psh | api.Ack, Data: data})
		wantBoth(t, api.Seg{Flags: api.Syn, Data: data})
		wantBoth(t, api.Seg{Flags: api.Syn, MSS: 1460, Data: data})
	}
}

// An MSS takes 4 bytes of what a segment may have.
func TestBytesOfEachLength(t *testing.T) {
	for n := range 1200 {
		for _, s := range []api.Seg{{Flags: api.Ack}, {Flags: api.Syn}, {Flags: api.Syn, MSS: 1}, {Flags: api.Syn, MSS: 65535}} {
			s.Data = text(n)
			most := 546
			if s.MSS > 0 {
				most = 542
			}
			if n > most {
				wantNoBytes(t, s, api.ErrLong)
				continue
			}
			wantBoth(t, s)
			if b, _ := seg.Bytes(s, here, there); len(b) != n+20+546-most {
				t.Fatalf("%s: %d bytes", told(s), len(b))
			}
		}
	}
	for _, n := range []int{1500, 65535, 65536, 65536 + 10, 1 << 20} {
		wantNoBytes(t, api.Seg{Data: text(n)}, api.ErrLong)
		wantNoBytes(t, api.Seg{Flags: api.Syn, MSS: 536, Data: text(n)}, api.ErrLong)
	}
}

func TestBytesAtTheEnds(t *testing.T) {
	wantBoth(t, api.Seg{From: 65535, To: 65535, Seq: math.MaxUint32, Ack: math.MaxUint32, Flags: 31, Window: 65535, MSS: 65535, Data: text(542)})
	wantBoth(t, api.Seg{From: 65535, To: 65535, Seq: math.MaxUint32, Ack: math.MaxUint32, Flags: 31, Window: 65535, Data: text(546)})
	wantNoBytes(t, api.Seg{Flags: api.Syn, MSS: 1, Data: text(543)}, api.ErrLong)
	wantNoBytes(t, api.Seg{Flags: api.Syn, MSS: 1, Data: text(546)}, api.ErrLong)
	wantNoBytes(t, api.Seg{Flags: api.Syn, Data: text(547)}, api.ErrLong)
}

// faults are ways to spoil a segment, each for itself.
func faults() []func(*api.Seg) {
	l := []func(*api.Seg){}
	for _, x := range noWords() {
		l = append(l,
			func(s *api.Seg) { s.From = x },
			func(s *api.Seg) { s.To = x },
			func(s *api.Seg) { s.Window = x },
			func(s *api.Seg) { s.MSS, s.Flags = x, s.Flags|api.Syn },
			func(s *api.Seg) { s.MSS, s.Flags = x, s.Flags&^api.Syn },
		)
	}
	for _, x := range noFlags() {
		l = append(l, func(s *api.Seg) { s.Flags = x })
	}
	for _, x := range []int{1, 2, 536, 1460, 65535} {
		l = append(l, func(s *api.Seg) { s.MSS, s.Flags = x, s.Flags&^api.Syn })
	}
	return l
}

// What may not be is told, ahead of what is too long too.
func TestBytesOfWrongNumbers(t *testing.T) {
	good := []api.Seg{
		{}, {Flags: api.Syn, MSS: 536}, {From: 1, To: 2, Seq: 3, Ack: 4, Flags: api.Ack, Window: 5, Data: "hi"}, {Flags: 31, MSS: 1460, Data: text(542)},
		{From: 65535, To: 65535, Window: 65535, Flags: 29, Data: text(546)},
	}
	for _, change := range faults() {
		for _, s := range good {
			wantBoth(t, s)
			change(&s)
			wantNoBytes(t, s, api.ErrArg)
			for _, n := range []int{543, 547, 65536} {
				s.Data = text(n)
				wantNoBytes(t, s, api.ErrArg)
			}
		}
	}
	for flags := -1000; flags < 2000; flags++ {
		if flags < 0 || flags > 31 {
			wantNoBytes(t, api.Seg{Flags: flags}, api.ErrArg)
		}
	}
}

// One fault does not hide another one.
func TestBytesOfTwoFaults(t *testing.T) {
	for _, one := range faults() {
		for _, other := range faults() {
			s := api.Seg{Flags: api.Ack, Data: "hi"}
			one(&s)
			other(&s)
			if s.MSS != 0 && s.MSS == s.MSS&65535 && s.Flags == api.Ack|api.Syn && s.From == 0 && s.To == 0 && s.Window == 0 {
				continue // the one fault has mended the other
			}
			wantNoBytes(t, s, api.ErrArg)
		}
	}
}

// Each byte of either address is in the sum.
func TestBytesBetweenAllAddresses(t *testing.T) {
	s := api.Seg{From: 1, To: 2, Seq: 3, Ack: 4, Flags: api.Syn, Window: 5, MSS: 536, Data: "odd"}
	hold := func(from, to api.IP) {
		t.Helper()
		want := asRaw(s).between(from, to)
		if b, e := seg.Bytes(s, from, to); b != want || e != api.OK {
			t.Fatalf("Bytes from %v to %v: %x, %d, not %x", from, to, b, e, want)
		}
		if x, e := seg.Read(want, from, to); x != s || e != api.OK {
			t.Fatalf("Read from %v to %v: %s, %d", from, to, told(x), e)
		}
	}
	for i := range 4 {
		for x := range 256 {
			from, to := here, there
			from[i] = byte(x)
			hold(from, to)
			to[i] = byte(x)
			hold(from, to)
			hold(here, to)
		}
	}
	hold(api.IP{}, api.IP{})
	hold(api.IP{255, 255, 255, 255}, api.IP{255, 255, 255, 255})
	hold(api.IP{1, 2, 3, 4}, api.IP{5, 6, 7, 8})
}

// All sums come, those at either end too.
func TestBytesOfEachSum(t *testing.T) {
	sums := map[string]int{}
	for x := range 65536 {
		s := api.Seg{Seq: uint32(x)<<16 | 0xffff}
		wantBoth(t, s)
		b, _ := seg.Bytes(s, here, there)
		sums[b[16:18]]++
	}
	if len(sums) != 65535 || sums["\xff\xff"] != 0 {
		t.Errorf("%d sums, %d times ffff", len(sums), sums["\xff\xff"])
	}
}
