package ether_test

import (
	"math/rand"
	"testing"

	"blockyard/api"
	"blockyard/ether"
)

// P6.3

func randomText(r *rand.Rand, n int) string {
	b := make([]byte, n)
	r.Read(b)
	return string(b)
}

func randomMac(r *rand.Rand) api.Mac {
	m := api.Mac{}
	r.Read(m[:])
	return m
}

func TestWhatHasBytesIsReadFromThem(t *testing.T) {
	r := rand.New(rand.NewSource(1))
	for i := range 20000 {
		// Some have a wrong type, or too many bytes: these have none to be read.
		f := api.Frame{To: randomMac(r), From: randomMac(r), Type: r.Intn(70000) - 2000, Data: randomText(r, i%620)}
		s, e := ether.Bytes(f)
		if (e == api.OK) != (f.Type >= 0 && f.Type <= 65535 && len(f.Data) <= 586) {
			t.Fatalf("Bytes of type %d and %d bytes of data: %d", f.Type, len(f.Data), e)
		}
		if e != api.OK {
			continue
		}
		if g, e := ether.Read(s); g != f || e != api.OK {
			t.Fatalf("Read(Bytes(%s)): %s, %d", told(f), told(g), e)
		}
	}
}

func TestWhatIsReadHasJustTheseBytes(t *testing.T) {
	r := rand.New(rand.NewSource(2))
	for i := range 20000 {
		s := randomText(r, i%620)
		f, e := ether.Read(s)
		if (e == api.OK) != (len(s) >= 14 && len(s) <= 600) {
			t.Fatalf("Read of %d bytes: %d", len(s), e)
		}
		if e != api.OK {
			continue
		}
		if got, e := ether.Bytes(f); got != s || e != api.OK {
			t.Fatalf("Bytes(Read(%q)): %q, %d", s, got, e)
		}
	}
}

func TestEachByteOfAFrameIsReadAndTold(t *testing.T) {
	for n := 14; n <= 16; n++ {
		for at := range n {
			for x := range 256 {
				b := make([]byte, n)
				b[at] = byte(x)
				f, e := ether.Read(string(b))
				if e != api.OK {
					t.Fatal(n, at, x, e)
				}
				if s, e := ether.Bytes(f); s != string(b) || e != api.OK {
					t.Fatalf("%q: %s, %q, %d", b, told(f), s, e)
				}
			}
		}
	}
}

func TestTheLongestAndTheShortest(t *testing.T) {
	for _, n := range []int{0, 586} {
		for _, x := range []int{0, 1, 255, 256, 65280, 65535} {
			f := api.Frame{To: ether.Everybody(), From: one, Type: x, Data: anyBytes(n)}
			s, e := ether.Bytes(f)
			if len(s) != headSize+n || e != api.OK {
				t.Fatal(n, x, len(s), e)
			}
			wantRead(t, s, f)
		}
	}
}

func TestCallsKnowNothingOfOneAnother(t *testing.T) {
	s := oneBytes + twoBytes + "\x08\x00hi"
	f := api.Frame{To: one, From: two, Type: 2048, Data: "hi"}
	for range 3 {
		wantBytes(t, f, s)
		wantRead(t, s, f)
		wantNoBytes(t, api.Frame{To: two, From: one, Type: 65536, Data: "other"}, api.ErrArg)
		wantNoRead(t, anyBytes(13), api.ErrShort)
		wantNoRead(t, anyBytes(601), api.ErrLong)
		g, _ := ether.Read(s)
		g.To[0], g.From[0], g.Type, g.Data = 9, 9, 9, "9"
	}
}
