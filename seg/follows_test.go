package seg_test

import (
	"math/rand"
	"testing"

	"blockyard/api"
	"blockyard/seg"
)

// P10.3

// plainMayBe tells whether the numbers of s are so, as the words say it, one by one.
func plainMayBe(s api.Seg) bool {
	switch {
	case s.From < 0 || s.From > 65535, s.To < 0 || s.To > 65535, s.Window < 0 || s.Window > 65535:
		return false
	case s.Flags < 0 || s.Flags > 31, s.MSS < 0 || s.MSS > 65535, s.MSS != 0 && s.Flags/2%2 == 0:
		return false
	}
	return true
}

// plainMayGo tells whether s has no more than a segment may.
func plainMayGo(s api.Seg) bool {
	if s.MSS != 0 {
		return len(s.Data)+4 <= 546
	}
	return len(s.Data) <= 546
}

// randomSeg is one that mostly may go.
func randomSeg(r *rand.Rand) api.Seg {
	b := make([]byte, r.Intn(560))
	r.Read(b)
	s := api.Seg{From: r.Intn(65536), To: r.Intn(65536), Seq: r.Uint32(), Ack: r.Uint32(), Flags: r.Intn(32), Window: r.Intn(65536), Data: string(b)}
	if s.Flags&api.Syn != 0 && r.Intn(3) > 0 {
		s.MSS = r.Intn(65536)
	}
	switch r.Intn(30) {
	case 0:
		s.From += 65536*r.Intn(3) - 65536
	case 1:
		s.To += 65536*r.Intn(3) - 65536
	case 2:
		s.Window += 65536*r.Intn(3) - 65536
	case 3:
		s.Flags += 32*r.Intn(3) - 32
	case 4:
		s.MSS += 65536*r.Intn(3) - 65536
	case 5:
		s.MSS = r.Intn(65536)
	}
	return s
}

func randomIP(r *rand.Rand) api.IP {
	a := api.IP{}
	r.Read(a[:])
	return a
}

func TestWhatHasBytesIsReadFromThem(t *testing.T) {
	r, n := rand.New(rand.NewSource(1)), 0
	for range 20000 {
		s, from, to := randomSeg(r), randomIP(r), randomIP(r)
		switch {
		case !plainMayBe(s):
			wantNoBytes(t, s, api.ErrArg)
			continue
		case !plainMayGo(s):
			wantNoBytes(t, s, api.ErrLong)
			continue
		}
		b, e := seg.Bytes(s, from, to)
		if e != api.OK || b != asRaw(s).between(from, to) {
			t.Fatalf("Bytes(%s): %x, %d", told(s), b, e)
		}
		if x, e := seg.Read(b, from, to); x != s || e != api.OK {
			t.Fatalf("Read(%x): %s, %d, not %s", b, told(x), e, told(s))
		}
		n++
	}
	if n < 15000 {
		t.Fatalf("but %d segments had bytes", n)
	}
}

// A bit of any byte that is turned is found, and so is one of either address.
func TestTurnedBitsAreFound(t *testing.T) {
	for _, s := range []api.Seg{
		{}, {Flags: api.Syn, MSS: 536}, {Flags: 31, MSS: 65535}, {From: 65535, To: 65535, Seq: 1<<32 - 1, Ack: 1<<32 - 1, Flags: 31, Window: 65535},
		{Data: "h"}, {Data: "hi"}, {Data: "\x00"}, {Flags: api.Syn, MSS: 1, Data: "odd"}, {Flags: api.Ack, Data: text(545)}, {Flags: api.Ack, Data: text(546)},
		{Flags: api.Syn | api.Fin, MSS: 1460, Data: text(541)}, {Flags: api.Syn, MSS: 1460, Data: text(542)},
	} {
		wantFound(t, s, here, there)
		wantFound(t, s, api.IP{}, api.IP{})
		wantFound(t, s, api.IP{255, 255, 255, 255}, api.IP{255, 255, 255, 255})
	}
	r := rand.New(rand.NewSource(2))
	for range 50 {
		s := randomSeg(r)
		if plainMayBe(s) && plainMayGo(s) {
			wantFound(t, s, randomIP(r), randomIP(r))
		}
	}
}

// errorOfTurned is what is answered of b with one bit turned, which is the sum's error but where the size of the head is another one.
func errorOfTurned(b string) api.Errno {
	n := int(b[12]) / 16 * 4
	switch {
	case n < 20:
		return api.ErrForm
	case n > len(b):
		return api.ErrShort
	}
	return api.ErrSum
}

func wantFound(t *testing.T, s api.Seg, from, to api.IP) {
	t.Helper()
	b := asRaw(s).between(from, to)
	if x, e := seg.Read(b, from, to); x != s || e != api.OK {
		t.Fatalf("Read(%x): %s, %d", b, told(x), e)
	}
	for i := range 8 * len(b) {
		w := turned(b, i)
		if x, e := seg.Read(w, from, to); x != (api.Seg{}) || e != errorOfTurned(w) {
			t.Fatalf("%s, bit %d: %s, %d", told(s), i, told(x), e)
		}
	}
	for i := range 32 {
		for _, l := range [][2]api.IP{{turnedIP(from, i), to}, {from, turnedIP(to, i)}} {
			if x, e := seg.Read(b, l[0], l[1]); x != (api.Seg{}) || e != api.ErrSum {
				t.Fatalf("%s, from %v to %v: %s, %d", told(s), l[0], l[1], told(x), e)
			}
			if w, e := seg.Bytes(s, l[0], l[1]); w == b || e != api.OK {
				t.Fatalf("%s, from %v to %v: %x, %d", told(s), l[0], l[1], w, e)
			}
		}
	}
}

func turnedIP(a api.IP, i int) api.IP {
	a[i/8] ^= 1 << (i % 8)
	return a
}

// plainOptions is the MSS that options tell, and whether they are as they should be, told by their places, not by what is left.
func plainOptions(b string, from, to int) (int, bool) {
	mss := 0
	for i := from; i < to; {
		switch {
		case b[i] == 0:
			return mss, true
		case b[i] == 1:
			i++
			continue
		case i+1 >= to, b[i+1] < 2, i+int(b[i+1]) > to, b[i] == 2 && b[i+1] != 4:
			return 0, false
		case b[i] == 2:
			mss = int(b[i+2])*256 + int(b[i+3])
		}
		i += int(b[i+1])
	}
	return mss, true
}

// plainRead is what Read answers, as the promise says it, one by one.
func plainRead(b string) (api.Seg, api.Errno) {
	if len(b) < 20 {
		return api.Seg{}, api.ErrShort
	}
	n := int(b[12]) / 16 * 4
	switch {
	case n < 20:
		return api.Seg{}, api.ErrForm
	case len(b) < n:
		return api.Seg{}, api.ErrShort
	case len(b) > 566:
		return api.Seg{}, api.ErrLong
	case plainSum(string(here[:])+string(there[:])+string([]byte{0, 6, byte(len(b) / 256), byte(len(b))})+b) != 0:
		return api.Seg{}, api.ErrSum
	}
	mss, ok := plainOptions(b, 20, n)
	if !ok {
		return api.Seg{}, api.ErrForm
	}
	big := func(at, n int) int {
		x := 0
		for i := range n {
			x = 256*x + int(b[at+i])
		}
		return x
	}
	s := api.Seg{From: big(0, 2), To: big(2, 2), Seq: uint32(big(4, 4)), Ack: uint32(big(8, 4)), Flags: int(b[13]) % 32, Window: big(14, 2), Data: b[n:]}
	if s.Flags/2%2 == 1 {
		s.MSS = mss
	}
	return s, api.OK
}

// randomOptions fills b with options, of which most are as they should be, but that the last one may be cut off.
func randomOptions(r *rand.Rand, b []byte) {
	for len(b) > 0 {
		o := []byte{2, 4, byte(r.Intn(256)), byte(r.Intn(256))}
		switch x := r.Intn(40); {
		case x == 0:
			o = o[:1+r.Intn(4)]
		case x == 1:
			o[0], o[1] = byte(r.Intn(256)), byte(r.Intn(8))
		case x == 2:
			o = []byte{0}
		case x < 10:
			o = append([]byte{byte(3 + r.Intn(253)), byte(2 + x)}, make([]byte, x)...)
		case x < 30:
			o = []byte{1}
		}
		b = b[copy(b, o):]
	}
}

// randomBytes is a text that often has a right sum, and options that are often as they should be.
func randomBytes(r *rand.Rand) string {
	b := make([]byte, r.Intn(600))
	if r.Intn(2) == 0 {
		b = b[:min(len(b), r.Intn(100))]
	}
	r.Read(b)
	if len(b) > 20 && r.Intn(10) > 0 {
		randomOptions(r, b[20:min(len(b), 60)])
	}
	if len(b) > 12 && r.Intn(10) > 0 {
		b[12] = byte(r.Intn(min(16, len(b)/4+2))<<4 | r.Intn(16))
	}
	if len(b) >= 20 && r.Intn(10) > 0 {
		return rightly(string(b), here, there)
	}
	return string(b)
}

func TestReadOfAnything(t *testing.T) {
	r, errors, mss := rand.New(rand.NewSource(3)), map[api.Errno]int{}, 0
	for range 200000 {
		b := randomBytes(r)
		want, e := plainRead(b)
		errors[e]++
		if want.MSS > 0 {
			mss++
		}
		if e != api.OK {
			wantNoRead(t, b, e)
			continue
		}
		wantRead(t, b, want)
		wantBoth(t, want) // what is read may go, too
	}
	for _, e := range []api.Errno{api.OK, api.ErrShort, api.ErrLong, api.ErrForm, api.ErrSum} {
		if errors[e] < 1000 {
			t.Errorf("error %d but %d times", e, errors[e])
		}
	}
	if mss < 10000 {
		t.Errorf("an MSS but %d times", mss)
	}
}

// A segment that is read stays as long as it was told to be.
func TestWhatIsReadIsAsLong(t *testing.T) {
	for flags := range 32 {
		for n := range 5 {
			s := api.Seg{Flags: flags, Data: text(n)}
			b, _ := seg.Bytes(s, here, there)
			x, e := seg.Read(b, here, there)
			if e != api.OK || seg.Len(x) != n+flags%2+flags/2%2 {
				t.Fatalf("%s: %d, %d", told(s), seg.Len(x), e)
			}
		}
	}
}

func TestCallsKnowNothingOfOneAnother(t *testing.T) {
	s := api.Seg{From: 1, To: 2, Seq: 3, Ack: 4, Flags: 16, Window: 5, Data: "hi"}
	b := "\x00\x01\x00\x02\x00\x00\x00\x03\x00\x00\x00\x04\x50\x10\x00\x05\x33\x58\x00\x00hi"
	for range 3 {
		wantLen(t, s, 2)
		wantBytes(t, s, b)
		wantRead(t, b, s)
		wantBoth(t, api.Seg{From: 9, Flags: api.Syn, MSS: 1460, Data: "other"})
		wantNoBytes(t, api.Seg{From: 9, MSS: 1460, Data: "other"}, api.ErrArg)
		wantNoBytes(t, api.Seg{From: 9, Data: text(547)}, api.ErrLong)
		wantNoRead(t, b[:19], api.ErrShort)
		wantNoRead(t, turned(b, 3), api.ErrSum)
		wantNoRead(t, raw{units: 96, flags: 2, options: "\x08\x01\x00\x00"}.text(), api.ErrForm)
		wantNoRead(t, text(12)+"\x50"+text(600), api.ErrLong)
	}
}
