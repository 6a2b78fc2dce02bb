package seg_test

import (
	"math"
	"strings"
	"testing"

	"blockyard/api"
	"blockyard/seg"
)

// P10.2

func TestReadOfTheExamples(t *testing.T) {
	b := "\x00\x01\x00\x02\x00\x00\x00\x03\x00\x00\x00\x04\x50\x10\x00\x05\x33\x58\x00\x00hi"
	wantRead(t, b, api.Seg{From: 1, To: 2, Seq: 3, Ack: 4, Flags: 16, Window: 5, Data: "hi"})
	wantNoRead(t, b[:19], api.ErrShort)
	wantNoRead(t, b[:20], api.ErrSum)
}

// The sums here are worked out by hand.
func TestReadOfHand(t *testing.T) {
	wantRead(t, strings.Repeat("\x00", 12)+"\x50\x00\x00\x00\x9b\xe2\x00\x00", api.Seg{})
	wantRead(t, strings.Repeat("\x00", 12)+"\x60\x02\x00\x00\x87\xc0\x00\x00\x02\x04\x02\x18", api.Seg{Flags: api.Syn, MSS: 536})
	wantRead(t, strings.Repeat("\x00", 12)+"\x50\x00\x00\x00\x9a\xe1\x00\x00\x01", api.Seg{Data: "\x01"})
	wantRead(t, strings.Repeat("\xff", 12)+"\x50\x00\xff\xff\x9b\xe2\x00\x00", api.Seg{From: 65535, To: 65535, Seq: math.MaxUint32, Ack: math.MaxUint32, Window: 65535})
}

// Of fewer bytes than a head has none is looked at.
func TestReadOfFewerBytes(t *testing.T) {
	whole := asRaw(api.Seg{From: 1, To: 2, Flags: api.Syn, MSS: 536, Data: text(30)}).text()
	for n := range 20 {
		for _, b := range []string{whole[:n], strings.Repeat("\x00", n), strings.Repeat("\xff", n), strings.Repeat("\x40", n), strings.Repeat("\x50", n), text(n)} {
			wantNoRead(t, b, api.ErrShort)
		}
	}
}

func TestReadOfEachLength(t *testing.T) {
	for n := 20; n < 1200; n++ {
		s := api.Seg{From: 1, To: 2, Seq: 3, Ack: 4, Flags: api.Ack, Window: 5, Data: text(n - 20)}
		b := asRaw(s).text()
		if n > 566 {
			wantNoRead(t, b, api.ErrLong)
			continue
		}
		wantRead(t, b, s)
	}
	for _, n := range []int{1500, 65535, 65536, 65536 + 20, 65536 + 100, 1 << 20} {
		wantNoRead(t, asRaw(api.Seg{Data: text(n - 20)}).text(), api.ErrLong)
	}
	for _, n := range []int{542, 543} {
		s := api.Seg{Flags: api.Syn, MSS: 536, Data: text(n)}
		b := asRaw(s).text()
		if n == 542 {
			wantRead(t, b, s)
		} else {
			wantNoRead(t, b, api.ErrLong)
		}
	}
}

// With so many bytes as it asks, one fewer and one more, and others around, whatever the lower half of that byte is, which does not count.
func TestReadOfEachSizeOfHead(t *testing.T) {
	for first := range 256 {
		n := first / 16 * 4
		r := raw{from: 1, to: 2, seq: 3, ack: 4, units: byte(first), flags: 18, window: 5}
		for _, length := range []int{20, 21, 24, n - 4, n - 1, n, n + 1, n + 4, 60, 61, 100, 566, 567} {
			if length < 20 {
				continue
			}
			r.data = ("\x00" + text(length))[:length-20] // options, if there are, end at once
			b := r.text()
			switch {
			case n < 20:
				wantNoRead(t, b, api.ErrForm)
			case length < n:
				wantNoRead(t, b, api.ErrShort)
			case length > 566:
				wantNoRead(t, b, api.ErrLong)
			default:
				wantRead(t, b, api.Seg{From: 1, To: 2, Seq: 3, Ack: 4, Flags: 18, Window: 5, Data: b[n:]})
			}
		}
	}
}

// At most 40 bytes of options, all of one byte, and an MSS as the last of them; and Data behind them, which begin as an MSS does.
func TestReadOfEachSizeOfOptions(t *testing.T) {
	for units := 5; units < 16; units++ {
		n := 4*units - 20
		r := raw{units: byte(units << 4), flags: api.Syn, options: strings.Repeat("\x01", n), data: "\x02\x04\x05\xb4"}
		wantRead(t, r.text(), api.Seg{Flags: api.Syn, Data: r.data})
		if n > 0 {
			r.options = strings.Repeat("\x01", n-4) + "\x02\x04\x12\x34"
			wantRead(t, r.text(), api.Seg{Flags: api.Syn, MSS: 0x1234, Data: r.data})
			r.data = ""
			wantRead(t, r.text(), api.Seg{Flags: api.Syn, MSS: 0x1234})
		}
	}
}

// Of all that two bytes may be there is one sum that is right.
func TestReadOfEachSum(t *testing.T) {
	for _, s := range []api.Seg{{}, {From: 1, To: 2, Flags: 31, MSS: 536, Data: "odd"}, {Flags: api.Ack, Data: text(546)}} {
		right := asRaw(s).text()
		if right[16:18] == "\x00\x00" {
			t.Fatal("this one has two")
		}
		for x := range 65536 {
			b := right[:16] + string([]byte{byte(x >> 8), byte(x)}) + right[18:]
			if b == right {
				wantRead(t, b, s)
			} else {
				wantNoRead(t, b, api.ErrSum)
			}
		}
	}
}

// Where all else adds up to a multiple of 65535, two sums are right (R7): Bytes makes the one of noughts, and Read takes both.
func TestReadOfBothSums(t *testing.T) {
	n := 0
	for x := range 65536 {
		s := api.Seg{Window: x, Flags: api.Ack, Data: "odd"}
		b := asRaw(s).text()
		if b[16:18] != "\x00\x00" {
			continue
		}
		wantBytes(t, s, b)
		wantRead(t, b, s)
		wantRead(t, b[:16]+"\xff\xff"+b[18:], s)
		n++
	}
	if n == 0 {
		t.Error("no such segment")
	}
}

// The addresses are only in the sum, which does not tell which of them is which; how many bytes there are is in it, too.
func TestReadBetweenAddresses(t *testing.T) {
	s := api.Seg{From: 1, To: 2, Flags: api.Ack, Data: "odd"}
	b := asRaw(s).text()
	if x, e := seg.Read(b, there, here); x != s || e != api.OK {
		t.Error(told(x), e)
	}
	for _, to := range []api.IP{{}, {10, 0, 0, 3}, {10, 0, 1, 2}, {10, 1, 0, 2}, {11, 0, 0, 2}, {2, 0, 0, 10}, {0, 10, 2, 0}, {255, 255, 255, 255}} {
		if x, e := seg.Read(b, here, to); x != (api.Seg{}) || e != api.ErrSum {
			t.Error(to, told(x), e)
		}
		if x, e := seg.Read(b, to, there); x != (api.Seg{}) || e != api.ErrSum {
			t.Error(to, told(x), e)
		}
	}
	for n := 1; n < 8; n++ {
		wantNoRead(t, b+strings.Repeat("\x00", n), api.ErrSum)
	}
	// It is a segment's sum: one that has another protocol's number, or none, in 6's place is wrong.
	sum := plainSum(string(here[:]) + string(there[:]) + "\x00\x01\x00" + string([]byte{byte(len(b))}) + b[:16] + "\x00\x00" + b[18:])
	wantNoRead(t, b[:16]+string([]byte{byte(sum >> 8), byte(sum)})+b[18:], api.ErrSum)
	sum = plainSum(b[:16] + "\x00\x00" + b[18:])
	wantNoRead(t, b[:16]+string([]byte{byte(sum >> 8), byte(sum)})+b[18:], api.ErrSum)
}

// The Flags above 31 and the two bytes behind the sum do not count.
func TestReadOfWhatDoesNotCount(t *testing.T) {
	for flags := range 256 {
		r := raw{units: 96, flags: byte(flags), other: uint16(flags) << 8, options: "\x02\x04\x05\xb4", data: "z"}
		want := api.Seg{Flags: flags % 32, Data: "z"}
		if flags/2%2 == 1 {
			want.MSS = 1460
		}
		wantRead(t, r.text(), want)
	}
	for other := range 65536 {
		wantRead(t, raw{units: 80, flags: 2, other: uint16(other)}.text(), api.Seg{Flags: 2})
	}
}

// wantOptions: a segment with these options, and noughts behind them up to a whole unit if they lack, with Syn and without, with Data and without; mss is what they tell.
func wantOptions(t *testing.T, options string, mss int) {
	t.Helper()
	for _, data := range []string{"", "z", "\x00\x02\x04", "\x04\x11\x22"} {
		r := raw{from: 7, to: 8, units: byte(5+len(options)/4) << 4, flags: api.Syn, options: options, data: data}
		wantRead(t, r.text(), api.Seg{From: 7, To: 8, Flags: api.Syn, MSS: mss, Data: data})
		r.flags = 31 - api.Syn
		wantRead(t, r.text(), api.Seg{From: 7, To: 8, Flags: 31 - api.Syn, Data: data})
	}
}

// wantNoOptions: such a segment is refused, with Syn and without, whatever stands behind the options.
func wantNoOptions(t *testing.T, options string) {
	t.Helper()
	for _, data := range []string{"", "z", "\x00\x00\x00", "\x01\x01", "\x02\x04\x05\xb4", "\x04\x11\x22", text(250)} {
		for _, flags := range []byte{api.Syn, 31, 31 - api.Syn, 0} {
			r := raw{units: byte(5+len(options)/4) << 4, flags: flags, options: options, data: data}
			wantNoRead(t, r.text(), api.ErrForm)
		}
	}
}

// Behind the end nothing counts.
func TestReadOfTheEndOfOptions(t *testing.T) {
	for _, options := range []string{
		"\x00\x00\x00\x00", "\x00\x02\x04\x09", "\x00\x02\x03\x09", "\x00\xff\xff\xff", "\x00\x08\x00\x00", "\x00\x08\x01\x00", "\x00\x01\x01\x08", "\x01\x00\x00\x08", "\x01\x01\x01\x00",
		"\x00\x00\x00\x00\x02\x04\x05\xb4", "\x03\x03\x07\x00\x02\x04\x00\x09", "\x01\x01\x01\x00\x02\x04\x05\xb4", "\x05\x02\x00\x05",
	} {
		wantOptions(t, options, 0)
	}
	wantOptions(t, "\x02\x04\x05\xb4\x00\x02\x04\x09", 1460)
	wantOptions(t, "\x02\x04\x05\xb4\x00\x00\x02\x04", 1460)
	wantOptions(t, "\x02\x04\x05\xb4\x01\x00\x08\x01", 1460)
}

func TestReadOfOptionsOfOneByte(t *testing.T) {
	wantOptions(t, "\x01\x01\x01\x01", 0)
	wantOptions(t, "\x01\x01\x01\x01\x02\x04\x00\x09", 9)
	wantOptions(t, "\x01\x02\x04\x05\xb4\x01\x01\x01", 1460)
	wantOptions(t, "\x01\x01\x02\x04\x05\xb4\x01\x01", 1460)
	wantOptions(t, "\x02\x04\x05\xb4\x01\x01\x01\x01", 1460)
	wantOptions(t, strings.Repeat("\x01", 40), 0)
}

func TestReadOfAnMSS(t *testing.T) {
	for x := range 65536 {
		told := string([]byte{byte(x >> 8), byte(x)})
		r := raw{units: 96, flags: api.Syn, options: "\x02\x04" + told}
		wantRead(t, r.text(), api.Seg{Flags: api.Syn, MSS: x})
		r.flags = api.Ack
		wantRead(t, r.text(), api.Seg{Flags: api.Ack})
	}
	// The last one counts, though it tells nought.
	wantOptions(t, "\x02\x04\x00\x09\x02\x04\x00\x0a", 10)
	wantOptions(t, "\x02\x04\x00\x0a\x02\x04\x00\x09", 9)
	wantOptions(t, "\x02\x04\x00\x0a\x02\x04\x00\x00", 0)
	wantOptions(t, "\x02\x04\x00\x00\x02\x04\x00\x0a", 10)
	wantOptions(t, "\x02\x04\x00\x01\x02\x04\x00\x02\x02\x04\x01\x03", 259)
	wantOptions(t, "\x02\x04\x05\xb4\x08\x04\x00\x01", 1460)
	wantOptions(t, "\x08\x04\x00\x01\x02\x04\x05\xb4", 1460)
	wantOptions(t, strings.Repeat("\x02\x04\x05\xb4", 9)+"\x02\x04\xff\xff", 65535)
}

// An MSS has the length 4, and no other, with Syn and without.
func TestReadOfAnMSSOfOtherLengths(t *testing.T) {
	for n := range 256 {
		l := string([]byte{byte(n)})
		if n == 4 {
			wantOptions(t, "\x02"+l+"\x05\xb4", 1460)
			wantOptions(t, "\x02"+l+"\x05\xb4\x01\x01\x01\x01", 1460)
			continue
		}
		wantNoOptions(t, "\x02"+l+"\x05\xb4")
		wantNoOptions(t, "\x02"+l+"\x05\xb4\x01\x01\x01\x01")
		wantNoOptions(t, "\x02"+l+strings.Repeat("\x01", 38))
		wantNoOptions(t, "\x02"+l+strings.Repeat("\x00", 38))
		wantNoOptions(t, "\x02\x04\x05\xb4\x02"+l+"\x05\xb4")
		wantNoOptions(t, "\x02"+l+"\x05\xb4\x02\x04\x05\xb4")
	}
	wantNoOptions(t, "\x01\x01\x02\x04")
	wantNoOptions(t, "\x01\x02\x04\x05")
	wantNoOptions(t, "\x01\x01\x01\x02")
	wantNoOptions(t, "\x01\x01\x02\x02")
}

// Unknown options are passed over, whatever is in them: here an MSS, the end, a length that is wrong.
func TestReadOfUnknownOptions(t *testing.T) {
	for kind := range 256 {
		if kind < 3 {
			continue
		}
		k := string([]byte{byte(kind)})
		wantOptions(t, k+"\x02\x01\x01", 0)
		wantOptions(t, k+"\x03\x02\x01", 0)
		wantOptions(t, k+"\x04\x02\x04", 0)
		wantOptions(t, k+"\x08\x02\x04\x05\xb4\x00\x00", 0)
		wantOptions(t, k+"\x03\x00\x01\x02\x04\x05\xb4", 1460)
		wantOptions(t, k+"\x02"+k+"\x02\x02\x04\x05\xb4", 1460)
		wantOptions(t, k+"\x04\xff\xff\x02\x04\x05\xb4", 1460)
		wantOptions(t, "\x02\x04\x05\xb4"+k+"\x04\x02\x04", 1460)
		wantOptions(t, k+"\x28"+strings.Repeat("\x02", 38), 0)
		wantOptions(t, k+"\x24"+strings.Repeat("\x00", 34)+"\x02\x04\x00\x07", 7)
		wantNoOptions(t, "\x01\x01\x01"+k)
		wantNoOptions(t, "\x02\x04\x05\xb4\x01\x01\x01"+k)
		wantNoOptions(t, k+"\x00\x01\x01")
		wantNoOptions(t, k+"\x01\x01\x01")
	}
}

// A length reaches to the end of the options, or above it, where Data may stand.
func TestReadOfEachLengthOfAnOption(t *testing.T) {
	for n := 4; n <= 40; n += 4 {
		for ahead := range n - 1 {
			for length := range 256 {
				inside := strings.Repeat("\x01", n-ahead-2)
				options := strings.Repeat("\x01", ahead) + "\x08" + string([]byte{byte(length)}) + inside
				if length >= 2 && length <= n-ahead {
					r := raw{units: byte(5+n/4) << 4, flags: api.Syn, options: options, data: "z"}
					wantRead(t, r.text(), api.Seg{Flags: api.Syn, Data: "z"})
				} else {
					r := raw{units: byte(5+n/4) << 4, flags: api.Syn, options: options, data: "z" + text(300)}
					wantNoRead(t, r.text(), api.ErrForm)
				}
			}
		}
		wantNoOptions(t, strings.Repeat("\x01", n-1)+"\x08")
		wantNoOptions(t, strings.Repeat("\x01", n-1)+"\xff")
		wantNoOptions(t, strings.Repeat("\x01", n-1)+"\x02")
	}
}

// What stands in the place of options is Data, if the head has none.
func TestReadOfNoOptions(t *testing.T) {
	for _, data := range []string{"\x02\x03\x05\xb4", "\x02\x04\x05\xb4", "\x08\x00\x00\x00", "\x08", "\x00"} {
		wantRead(t, raw{units: 80, flags: api.Syn, data: data}.text(), api.Seg{Flags: api.Syn, Data: data})
	}
}

// spoilt is b with a wrong sum.
func spoilt(b string) string {
	return turned(b, 8*16+3)
}

// Of two errors the first is told: too few bytes for any head, a size below any head, too few for this head, too many, the sum, the options.
func TestReadTellsTheFirstFault(t *testing.T) {
	wrong := "\x08\x01\x00\x00"
	long := raw{units: 96, flags: 2, options: wrong, data: text(543)}.text()
	wantNoRead(t, long, api.ErrLong)
	wantNoRead(t, spoilt(long), api.ErrLong)
	form := raw{units: 96, flags: 2, options: wrong, data: text(542)}.text()
	wantNoRead(t, form, api.ErrForm)
	wantNoRead(t, spoilt(form), api.ErrSum)
	for units := range 16 {
		r := raw{units: byte(units << 4), options: wrong, data: text(543)}
		want := api.ErrForm
		if units >= 5 {
			want = api.ErrLong
		}
		wantNoRead(t, r.text(), want)
		wantNoRead(t, spoilt(r.text()), want)
		wantNoRead(t, r.text()[:19], api.ErrShort)
		r.options, r.data = "", ""
		switch {
		case units > 5:
			want = api.ErrShort
		case units == 5:
			want = api.ErrSum
		}
		wantNoRead(t, spoilt(r.text()), want)
		r.data = text(10)
		if units == 6 || units == 7 {
			want = api.ErrSum
		}
		wantNoRead(t, spoilt(r.text()), want)
	}
	// Whole segments, less the last bytes, which their heads ask for.
	b := raw{units: 240, flags: 2, options: strings.Repeat(wrong, 10)}.text()
	for n := 20; n < 60; n++ {
		wantNoRead(t, b[:n], api.ErrShort)
		wantNoRead(t, rightly(b[:n], here, there), api.ErrShort)
	}
	wantNoRead(t, b, api.ErrForm)
}
