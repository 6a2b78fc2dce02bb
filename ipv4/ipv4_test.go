package ipv4_test

import (
	"math"
	"strconv"
	"strings"
	"testing"

	"blockyard/api"
	"blockyard/ipv4"
)

// The addresses of the packets here, and their bytes, all unlike.
var (
	ipA = api.IP{11, 12, 13, 14}
	ipB = api.IP{21, 22, 23, 24}
)

const (
	ipABytes = "\x0b\x0c\x0d\x0e"
	ipBBytes = "\x15\x16\x17\x18"
)

// packet is one that is whole, and has these Data.
func packet(data string) api.Packet {
	return api.Packet{Id: 0x1234, From: ipA, To: ipB, Proto: 17, Ttl: 3, Data: data}
}

// text is n bytes, of which those that stand near one another are unlike.
func text(n int) string {
	b := make([]byte, n)
	x := uint32(n)
	for i := range b {
		x = x*1664525 + 1013904223
		b[i] = byte(x >> 24)
	}
	return string(b)
}

// told is a packet short enough to be shown.
func told(p api.Packet) string {
	n := len(p.Data)
	p.Data = ""
	return strings.Join([]string{"Id", strconv.Itoa(p.Id), "Proto", strconv.Itoa(p.Proto), "Ttl", strconv.Itoa(p.Ttl), "At", strconv.Itoa(p.At), "More", strconv.FormatBool(p.More), "Data", strconv.Itoa(n)}, " ")
}

// plainSum is what Sum has to be, by other means: what is above 65535 and added to the rest changes no remainder of 65535, and makes nought only of nought.
func plainSum(s string) int {
	x := 0
	for i := range len(s) {
		x = (x + int(s[i])<<(8-8*(i%2))) % 65535
	}
	if x == 0 && strings.Trim(s, "\x00") != "" {
		return 0
	}
	return 65535 - x
}

// raw is the parts of a packet's bytes, whatever they are; its text has the right sum.
type raw struct {
	first, second, all, id, place, ttl, proto int
	options, data                             string
}

// asRaw is the parts of p's bytes.
func asRaw(p api.Packet) raw {
	place := p.At / 8
	if p.More {
		place += 8192
	}
	return raw{first: 69, all: 20 + len(p.Data), id: p.Id, place: place, ttl: p.Ttl, proto: p.Proto, data: p.Data}
}

// with is r with so many bytes of options, which the sum of the head counts.
func (r raw) with(options string) raw {
	r.first += len(options) / 4
	r.all += len(options)
	r.options = options
	return r
}

func (r raw) text() string {
	two := func(x int) string { return string([]byte{byte(x >> 8), byte(x)}) }
	ahead := string([]byte{byte(r.first), byte(r.second)}) + two(r.all) + two(r.id) + two(r.place) + string([]byte{byte(r.ttl), byte(r.proto)})
	behind := ipABytes + ipBBytes + r.options
	return ahead + two(plainSum(ahead+behind)) + behind + r.data
}

func wantSum(t *testing.T, s string, want int) {
	t.Helper()
	if x := ipv4.Sum(s); x != want {
		t.Fatalf("Sum of %d bytes, %q: %d, not %d", len(s), s[:min(len(s), 20)], x, want)
	}
}

func wantBytes(t *testing.T, p api.Packet, want string) {
	t.Helper()
	if s, e := ipv4.Bytes(p); s != want || e != api.OK {
		t.Fatalf("Bytes(%s): %q, %d, not %q", told(p), s, e, want)
	}
}

func wantNoBytes(t *testing.T, p api.Packet, want api.Errno) {
	t.Helper()
	if s, e := ipv4.Bytes(p); s != "" || e != want {
		t.Fatalf("Bytes(%s): %d bytes, %d, not error %d", told(p), len(s), e, want)
	}
}

func wantRead(t *testing.T, s string, want api.Packet) {
	t.Helper()
	if p, e := ipv4.Read(s); p != want || e != api.OK {
		t.Fatalf("Read(%x..): %s, %d, not %s", s[:min(len(s), 60)], told(p), e, told(want))
	}
}

func wantNoRead(t *testing.T, s string, want api.Errno) {
	t.Helper()
	if p, e := ipv4.Read(s); p != (api.Packet{}) || e != want {
		t.Fatalf("Read(%x..): %s, %d, not error %d", s[:min(len(s), 60)], told(p), e, want)
	}
}

// P8.1: Sum

func TestSumOfTheExamples(t *testing.T) {
	wantSum(t, "\x45\x00\x00\x1c", 47843)
	wantSum(t, "\x01", 65279)
	wantSum(t, "", 65535)
}

func TestSumOfPairs(t *testing.T) {
	for _, x := range []struct {
		s    string
		want int
	}{
		{"\x00\x00", 65535}, {"\x00\x01", 65534}, {"\x01\x00", 65279}, {"\x12\x34", 65535 - 0x1234}, {"\xff\xff", 0}, {"\xff\xfe", 1},
		{"\x00\x01\x00\x02\x00\x03", 65529}, {"\x01\x00\x00\x01", 65535 - 0x101}, {"\xff\xfe\x00\x01", 0}, {"\xff\x00\x00\xff", 0},
	} {
		wantSum(t, x.s, x.want)
	}
	for x := range 65536 {
		wantSum(t, string([]byte{byte(x / 256), byte(x % 256)}), 65535-x)
	}
}

func TestSumOfOddTexts(t *testing.T) {
	for x := range 256 {
		wantSum(t, string([]byte{byte(x)}), 65535-256*x)
	}
	wantSum(t, "\x00\x00\x02", 65535-512)
	wantSum(t, "\x00\x01\x02", 65535-513)
	wantSum(t, "\x12\x34\x56", 65535-0x1234-0x5600)
	wantSum(t, "\x00\xff\xff", 0)
	for n := 1; n < 40; n += 2 {
		wantSum(t, text(n), ipv4.Sum(text(n)+"\x00"))
	}
}

func TestSumGoesRound(t *testing.T) {
	wantSum(t, "\xff\xff\x00\x01", 65534)                 // 10000: what is above is 1
	wantSum(t, "\xff\xff\xff\xff", 0)                     // 1fffe
	wantSum(t, "\x80\x00\x80\x00\x00\x05", 65529)         // 10005
	wantSum(t, "\xff\xff\xff", 65535-0xff00)              // 1feff, of an odd text
	wantSum(t, "\xff\xff\xff\xff\xff\xff", 0)             // 2fffd: what is above is 2
	wantSum(t, "\xff\xff\xff\xff\x00\x01", 65534)         // 1ffff, then 10000, then 1
	wantSum(t, "\xff\xff\xff\xff\x00\x02", 65533)         // 20000, then 2
	wantSum(t, "\xff\xff\xff\xff\xff\xff\x00\x02", 65533) // 2ffff, then 10001, then 2
}

func TestSumOfLongTexts(t *testing.T) {
	for _, n := range []int{131068, 131069, 131070, 131071, 131072, 131073, 131074, 131075, 131076, 131078, 200001, 1 << 20} {
		wantSum(t, strings.Repeat("\xff", n), plainSum(strings.Repeat("\xff", n)))
		wantSum(t, strings.Repeat("\x00", n), 65535)
		wantSum(t, strings.Repeat("\x00", n)+"\xff\xff", plainSum(strings.Repeat("\x00", n)+"\xff\xff"))
		wantSum(t, text(n), plainSum(text(n)))
	}
	// 65538 pairs are more than 32 bits hold.
	wantSum(t, strings.Repeat("\xff\xff", 65538), 0)
	wantSum(t, strings.Repeat("\xff\xff", 65538)+"\x00\x01", 65534)
	wantSum(t, strings.Repeat("\xff\xfe", 65538), 65535-(65535-65538%65535))
}

func TestSumOfEachLength(t *testing.T) {
	for n := range 700 {
		wantSum(t, text(n), plainSum(text(n)))
	}
}

// P8.1: Bytes

func TestBytesOfTheExample(t *testing.T) {
	p := api.Packet{Id: 1, From: api.IP{10, 0, 0, 1}, To: api.IP{10, 0, 0, 2}, Proto: 6, Ttl: 64, Data: "hi"}
	wantBytes(t, p, "\x45\x00\x00\x16\x00\x01\x00\x00\x40\x06\x66\xdf\x0a\x00\x00\x01\x0a\x00\x00\x02hi")
}

func TestBytesOfAPiece(t *testing.T) {
	p := api.Packet{Id: 0x1234, From: ipA, To: ipB, Proto: 17, Ttl: 3, At: 0x1230, More: true, Data: "12345678"}
	ahead, behind := "\x45\x00\x00\x1c\x12\x34\x22\x46\x03\x11", ipABytes+ipBBytes
	x := plainSum(ahead + behind)
	wantBytes(t, p, ahead+string([]byte{byte(x >> 8), byte(x)})+behind+"12345678")
}

func TestBytesOfAllThatMayGo(t *testing.T) {
	hold := func(change func(p *api.Packet)) {
		t.Helper()
		p := packet("12345678")
		change(&p)
		wantBytes(t, p, asRaw(p).text())
	}
	for _, x := range []int{0, 1, 255, 256, 257, 32767, 32768, 65534, 65535} {
		hold(func(p *api.Packet) { p.Id = x })
	}
	for x := range 256 {
		hold(func(p *api.Packet) { p.Proto = x })
		hold(func(p *api.Packet) { p.Ttl = x })
	}
	for x := 0; x <= 65504; x += 8 {
		hold(func(p *api.Packet) { p.At = x })
		hold(func(p *api.Packet) { p.At, p.More = x, true })
	}
	for n := range 567 {
		hold(func(p *api.Packet) { p.Data = text(n) })
		hold(func(p *api.Packet) { p.At, p.Data = 800, text(n) })
		if n > 0 && n%8 == 0 {
			hold(func(p *api.Packet) { p.More, p.Data = true, text(n) })
		}
	}
	for n := range 4 { // together at most 65515
		hold(func(p *api.Packet) { p.At, p.Data = 65512, text(n) })
	}
	hold(func(p *api.Packet) { p.At, p.Data = 64952, text(563) })
	hold(func(p *api.Packet) { *p = api.Packet{From: ipA, To: ipB} })
}

func TestBytesOfAddresses(t *testing.T) {
	for i := range 4 {
		for x := range 256 {
			for _, change := range []func(p *api.Packet){func(p *api.Packet) { p.From[i] = byte(x) }, func(p *api.Packet) { p.To[i] = byte(x) }} {
				p := packet("hi")
				change(&p)
				ahead, behind := "\x45\x00\x00\x16\x12\x34\x00\x00\x03\x11", string(p.From[:])+string(p.To[:])
				sum := plainSum(ahead + behind)
				wantBytes(t, p, ahead+string([]byte{byte(sum >> 8), byte(sum)})+behind+"hi")
			}
		}
	}
}

// far are numbers that are no field of a packet, some of which are one by their lowest bytes.
func far() []int {
	return []int{-1, -8, -256, -65536, math.MinInt, math.MinInt + 8, math.MinInt + 1<<32, math.MaxInt, math.MaxInt - 7, 65536, 65544, 1 << 20, 1 << 32, 1<<32 + 8, 1 << 62}
}

// changes are what makes packets of such that may not be.
func changes() []func(p *api.Packet) {
	l := []func(p *api.Packet){}
	for _, x := range far() {
		l = append(l, func(p *api.Packet) { p.Id = x }, func(p *api.Packet) { p.Proto = x }, func(p *api.Packet) { p.Ttl = x }, func(p *api.Packet) { p.At = x })
	}
	for _, x := range []int{256, 257, 511, 512, 65535} {
		l = append(l, func(p *api.Packet) { p.Proto = x }, func(p *api.Packet) { p.Ttl = x })
	}
	for _, x := range []int{1, 2, 3, 4, 5, 6, 7, 9, 12, 15, 17, 65503, 65511, 65513, 65515, 65520, 65528, 65535} {
		l = append(l, func(p *api.Packet) { p.At = x }, func(p *api.Packet) { p.At, p.Data = x, "" })
	}
	for _, x := range []int{-7, -4, -2, -1, -9} {
		l = append(l, func(p *api.Packet) { p.At = x })
	}
	for _, n := range []int{0, 1, 2, 4, 7, 9, 15, 17, 65513, 65515} {
		l = append(l, func(p *api.Packet) { p.More, p.Data = true, text(n) })
		l = append(l, func(p *api.Packet) { p.At, p.More, p.Data = 8, true, text(n) })
	}
	l = append(l, func(p *api.Packet) { p.At, p.Data = 65512, text(4) }, func(p *api.Packet) { p.At, p.More = 65512, true })
	l = append(l, func(p *api.Packet) { p.At, p.Data = 64952, text(564) }, func(p *api.Packet) { p.At, p.More, p.Data = 64952, true, text(568) })
	l = append(l, func(p *api.Packet) { p.At, p.Data = 8, text(65508) }, func(p *api.Packet) { p.Data = text(65516) }, func(p *api.Packet) { p.Data = text(1 << 17) })
	return l
}

func TestBytesOfWhatMayNotBe(t *testing.T) {
	for _, change := range changes() {
		p := packet("12345678")
		change(&p)
		wantNoBytes(t, p, api.ErrArg)
	}
}

// What may be, and may not go, is too long; what may not be is that first.
func TestBytesOfTooLongOnes(t *testing.T) {
	wantBytes(t, packet(text(566)), asRaw(packet(text(566))).text())
	for _, n := range []int{567, 568, 576, 580, 600, 1200, 1201, 65514, 65515} {
		wantNoBytes(t, packet(text(n)), api.ErrLong)
		for _, change := range []func(p *api.Packet){func(p *api.Packet) { p.Id = -1 }, func(p *api.Packet) { p.Proto = 256 }, func(p *api.Packet) { p.Ttl = 256 }, func(p *api.Packet) { p.At = 4 }, func(p *api.Packet) { p.At = 65512 }} {
			p := packet(text(n))
			change(&p)
			wantNoBytes(t, p, api.ErrArg)
		}
		p := packet(text(n))
		p.More = true
		if n%8 == 0 {
			wantNoBytes(t, p, api.ErrLong)
		} else {
			wantNoBytes(t, p, api.ErrArg)
		}
	}
	p := packet(text(567))
	p.At = 64944 // together 65511
	wantNoBytes(t, p, api.ErrLong)
	p.At = 64952 // together 65519
	wantNoBytes(t, p, api.ErrArg)
}
