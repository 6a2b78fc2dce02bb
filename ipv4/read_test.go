package ipv4_test

import (
	"strings"
	"testing"

	"blockyard/api"
	"blockyard/ipv4"
)

// P8.2

func TestReadOfTheExample(t *testing.T) {
	want := api.Packet{Id: 1, From: api.IP{10, 0, 0, 1}, To: api.IP{10, 0, 0, 2}, Proto: 6, Ttl: 64, Data: "hi"}
	wantRead(t, "\x45\x00\x00\x16\x00\x01\x00\x00\x40\x06\x66\xdf\x0a\x00\x00\x01\x0a\x00\x00\x02hi", want)
}

func TestReadOfEachField(t *testing.T) {
	hold := func(change func(p *api.Packet)) {
		t.Helper()
		p := packet("12345678")
		change(&p)
		wantRead(t, asRaw(p).text(), p)
	}
	for x := range 65536 {
		hold(func(p *api.Packet) { p.Id = x })
	}
	for x := range 256 {
		hold(func(p *api.Packet) { p.Proto = x })
		hold(func(p *api.Packet) { p.Ttl = x })
	}
	for n := range 600 {
		hold(func(p *api.Packet) { p.Data = text(n) })
	}
	b := []byte(asRaw(packet("hi")).text())
	for i := 12; i < 20; i++ {
		b[i] = byte(200 + i)
	}
	b[10], b[11] = 0, 0
	sum := plainSum(string(b[:20]))
	b[10], b[11] = byte(sum>>8), byte(sum)
	p := packet("hi")
	p.From, p.To = api.IP{212, 213, 214, 215}, api.IP{216, 217, 218, 219}
	wantRead(t, string(b), p)
}

func TestReadOfEachLength(t *testing.T) {
	p := packet("12345678")
	whole := asRaw(p).text()
	behind := whole + strings.Repeat("\xff\x00x", 500)
	for n := range len(behind) {
		if n < len(whole) {
			wantNoRead(t, behind[:n], api.ErrShort)
		} else {
			wantRead(t, behind[:n], p)
		}
	}
	wantRead(t, whole+strings.Repeat("\xff", 70000), p)
	for n := range 20 {
		wantNoRead(t, strings.Repeat("\x00", n), api.ErrShort)
		wantNoRead(t, strings.Repeat("\x45", n), api.ErrShort)
	}
	empty := asRaw(packet("")).text()
	wantRead(t, empty, packet(""))
	wantNoRead(t, empty[:19], api.ErrShort)
}

// A packet may have more than may go: 65535 bytes in all, with its head, at most.
func TestReadOfLongOnes(t *testing.T) {
	for _, n := range []int{566, 567, 568, 580, 581, 1200, 1201, 65514, 65515} {
		p := packet(text(n))
		wantRead(t, asRaw(p).text(), p)
		wantRead(t, asRaw(p).text()+"behind", p)
		wantNoRead(t, asRaw(p).text()[:n+19], api.ErrShort)
	}
	p := packet(text(65511))
	wantRead(t, asRaw(p).with("\x01\x01\x01\x00").text(), p)
	p.At = 8
	wantNoRead(t, asRaw(p).text(), api.ErrForm)
}

// Of the first byte both halves count.
func TestReadOfEachFirstByte(t *testing.T) {
	r := asRaw(packet(text(100)))
	for x := range 256 {
		r.first = x
		switch n := 4 * (x % 16); {
		case x/16 != 4 || n < 20:
			wantNoRead(t, r.text(), api.ErrForm)
			wantNoRead(t, r.text()[:20], api.ErrForm)
		case n > 20:
			wantNoRead(t, r.text()[:n-1], api.ErrShort)
			wantNoRead(t, r.text()[:20], api.ErrShort)
			wantNoRead(t, r.text(), api.ErrSum) // the sum is of twenty bytes, but the head has more
		default:
			wantRead(t, r.text(), packet(text(100)))
		}
	}
}

func TestReadLetsBeOptions(t *testing.T) {
	for n := 0; n <= 40; n += 4 {
		for _, options := range []string{strings.Repeat("\x00", n), strings.Repeat("\xff", n), strings.Repeat("\x01\x01\x01\x00", n/4), text(n)} {
			for _, data := range []string{"", "h", "hi", text(40), text(566)} {
				s := asRaw(packet(data)).with(options).text()
				wantRead(t, s, packet(data))
				wantRead(t, s+"behind", packet(data))
				wantNoRead(t, s[:len(s)-1], api.ErrShort)
				wantNoRead(t, s[:20+n-1], api.ErrShort)
				if data != "" {
					wantNoRead(t, s[:20+n], api.ErrShort)
				}
			}
		}
	}
	piece := api.Packet{Id: 7, From: ipA, To: ipB, Proto: 9, Ttl: 8, At: 24, More: true, Data: text(48)}
	wantRead(t, asRaw(piece).with(text(40)).text(), piece)
}

// A bit of the head that is turned is found, in options too.
func TestReadOfTurnedBits(t *testing.T) {
	piece := api.Packet{Id: 0xffff, From: ipA, To: ipB, Proto: 255, Ttl: 128, At: 16, More: true, Data: text(80)}
	for _, p := range []api.Packet{packet("hi"), packet(""), packet(text(100)), piece} {
		for _, options := range []string{"", "\x01\x01\x01\x00", text(40)} {
			s := asRaw(p).with(options).text()
			for i := range 8 * (20 + len(options)) {
				b := []byte(s)
				b[i/8] ^= 1 << (i % 8)
				if i < 8 {
					if got, e := ipv4.Read(string(b)); got != (api.Packet{}) || e != api.ErrForm && e != api.ErrShort && e != api.ErrSum {
						t.Fatalf("bit %d of %s: %s, %d", i, told(p), told(got), e)
					}
				} else {
					wantNoRead(t, string(b), api.ErrSum)
				}
			}
		}
	}
}

// What is not the head does not count for the sum.
func TestReadOfTurnedData(t *testing.T) {
	s := asRaw(packet("12345678")).text()
	for i := range 64 {
		b := []byte(s)
		b[20+i/8] ^= 1 << (i % 8)
		wantRead(t, string(b), packet(string(b[20:])))
	}
}

func TestReadOfEachSum(t *testing.T) {
	p := packet("hi")
	s := asRaw(p).text()
	for x := range 65536 {
		b := []byte(s)
		b[10], b[11] = byte(x>>8), byte(x)
		if string(b) == s {
			wantRead(t, string(b), p)
		} else {
			wantNoRead(t, string(b), api.ErrSum)
		}
	}
}

// The second byte does not count but for the sum.
func TestReadOfEachSecondByte(t *testing.T) {
	r := asRaw(packet("hi"))
	for x := range 256 {
		r.second = x
		wantRead(t, r.text(), packet("hi"))
	}
}

// The number of all bytes is less than the head, more than what there is, or tells where the Data end.
func TestReadOfEachNumberOfAllBytes(t *testing.T) {
	for _, options := range []string{"", "\x01\x01\x01\x01", text(40)} {
		n := 20 + len(options)
		r := asRaw(packet(text(50))).with(options)
		for _, all := range []int{0, 1, 5, 19, n - 4, n - 1} {
			r.all = all
			if all < n {
				wantNoRead(t, r.text(), api.ErrForm)
			}
		}
		for all := n; all <= n+50; all++ {
			r.all = all
			wantRead(t, r.text(), packet(text(50)[:all-n]))
		}
		for _, all := range []int{n + 51, n + 52, 256 * n, 32768, 65534, 65535} {
			r.all = all
			wantNoRead(t, r.text(), api.ErrShort)
		}
	}
}

// The bytes 6 and 7: the highest bit is never set, the next one does not count, then come More and At.
func TestReadOfEachPlace(t *testing.T) {
	for _, n := range []int{0, 1, 3, 4, 8, 12, 16, 560} {
		r := asRaw(packet(text(n)))
		for x := range 65536 {
			r.place = x
			p := packet(text(n))
			p.At, p.More = x%8192*8, x/8192%2 == 1
			if x >= 32768 || p.At+n > 65515 || p.More && (n == 0 || n%8 != 0) {
				wantNoRead(t, r.text(), api.ErrForm)
			} else {
				wantRead(t, r.text(), p)
			}
		}
	}
}

func TestReadOfTheHighestBits(t *testing.T) {
	r := asRaw(packet("12345678"))
	for place, want := range map[int]api.Errno{0x8000: api.ErrForm, 0xc000: api.ErrForm, 0xa000: api.ErrForm, 0xffff: api.ErrForm, 0x4000: api.OK, 0x6000: api.OK, 0x2000: api.OK, 0: api.OK} {
		r.place = place
		if _, e := ipv4.Read(r.text()); e != want {
			t.Errorf("place %x: %d, not %d", place, e, want)
		}
	}
}

// At and Data together are at most 65515.
func TestReadOfTheHighestPlaces(t *testing.T) {
	for _, x := range []struct {
		at, n int
		more  bool
		want  api.Errno
	}{
		{65512, 0, false, api.OK}, {65512, 3, false, api.OK}, {65512, 4, false, api.ErrForm}, {65512, 8, true, api.ErrForm},
		{65504, 11, false, api.OK}, {65504, 12, false, api.ErrForm}, {65504, 8, true, api.OK}, {65504, 16, true, api.ErrForm},
		{65520, 0, false, api.ErrForm}, {65528, 0, false, api.ErrForm}, {65528, 8, true, api.ErrForm},
		{8, 65507, false, api.OK}, {8, 65508, false, api.ErrForm}, {8, 65504, true, api.OK}, {8, 65512, true, api.ErrForm},
	} {
		p := packet(text(x.n))
		p.At, p.More = x.at, x.more
		if x.want == api.OK {
			wantRead(t, asRaw(p).text(), p)
		} else {
			wantNoRead(t, asRaw(p).text(), x.want)
		}
	}
}

// spoil makes the sum of the head wrong.
func spoil(s string) string {
	b := []byte(s)
	b[10] ^= 1
	return string(b)
}

func TestReadTellsTheFirstFault(t *testing.T) {
	r := asRaw(packet(text(50)))
	// The first byte behind too few bytes, ahead of the sum, and of the head's size.
	r.first = 0x35
	wantNoRead(t, r.text()[:19], api.ErrShort)
	wantNoRead(t, spoil(r.text()), api.ErrForm)
	r.first = 0x44
	wantNoRead(t, spoil(r.text()), api.ErrForm)
	r.first = 0x3f
	wantNoRead(t, r.text()[:20], api.ErrForm)
	// Too few bytes for the head ahead of its sum, and of the number of all.
	r.first, r.all = 0x4f, 0
	wantNoRead(t, spoil(r.text())[:59], api.ErrShort)
	wantNoRead(t, spoil(r.text())[:20], api.ErrShort)
	// The sum ahead of the number of all bytes, and of the place.
	for _, all := range []int{0, 19, 71, 65535} {
		r = asRaw(packet(text(50)))
		r.all = all
		wantNoRead(t, spoil(r.text()), api.ErrSum)
	}
	for _, place := range []int{0x8000, 0x2000, 0x1fff} {
		r = asRaw(packet(text(50)))
		r.place = place
		wantNoRead(t, spoil(r.text()), api.ErrSum)
		// The number of all bytes ahead of the place.
		r.all = 71
		wantNoRead(t, r.text(), api.ErrShort)
		r.all = 70
		wantNoRead(t, r.text(), api.ErrForm)
	}
}
