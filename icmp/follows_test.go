package icmp_test

import (
	"math/rand"
	"testing"

	"blockyard/api"
	"blockyard/icmp"
	"blockyard/ipv4"
)

// P9.3

// randomMessage is one that mostly may go.
func randomMessage(r *rand.Rand) api.Icmp {
	b := make([]byte, r.Intn(580))
	r.Read(b)
	m := api.Icmp{Kind: r.Intn(256), Code: r.Intn(256), Rest: r.Uint32(), Data: string(b)}
	switch r.Intn(10) {
	case 0:
		m.Kind += 256*r.Intn(3) - 256
	case 1:
		m.Code += 256*r.Intn(3) - 256
	case 2, 3, 4:
		m.Kind, m.Code = 8, 0
	}
	return m
}

func TestWhatHasBytesIsReadFromThem(t *testing.T) {
	r, n := rand.New(rand.NewSource(1)), 0
	for range 20000 {
		m := randomMessage(r)
		s, e := icmp.Bytes(m)
		switch {
		case m.Kind < 0 || m.Kind > 255 || m.Code < 0 || m.Code > 255:
			wantNoBytes(t, m, api.ErrArg)
			continue
		case len(m.Data) > 558:
			wantNoBytes(t, m, api.ErrLong)
			continue
		case e != api.OK || len(s) != 8+len(m.Data) || ipv4.Sum(s) != 0:
			t.Fatalf("Bytes(%s): %q, %d", told(m), s, e)
		}
		wantRead(t, s, m)
		n++
	}
	if n < 10000 {
		t.Fatalf("but %d messages had bytes", n)
	}
}

// Messages that are unlike in anything have unlike bytes, and of a text that is unlike in one bit none is read.
func TestOnlyTheirOwnIsReadFromThem(t *testing.T) {
	r := rand.New(rand.NewSource(2))
	for range 2000 {
		m := randomMessage(r)
		s, e := icmp.Bytes(m)
		if e != api.OK {
			continue
		}
		for _, other := range []api.Icmp{
			{Kind: m.Kind ^ 1, Code: m.Code, Rest: m.Rest, Data: m.Data},
			{Kind: m.Kind, Code: m.Code ^ 128, Rest: m.Rest, Data: m.Data},
			{Kind: m.Kind, Code: m.Code, Rest: m.Rest ^ 1<<r.Intn(32), Data: m.Data},
			{Kind: m.Kind, Code: m.Code, Rest: m.Rest, Data: m.Data + "\x00"},
			{Kind: m.Code, Code: m.Kind, Rest: m.Rest, Data: m.Data},
		} {
			if x, e := icmp.Bytes(other); other != m && e == api.OK && x == s {
				t.Fatalf("%s and %s have the same bytes", told(m), told(other))
			}
		}
		wantNoRead(t, turned(s, r.Intn(8*len(s))), api.ErrSum)
	}
}

// What is read has these bytes, but that its sum may be told in two ways, if it is nought.
func TestWhatIsReadHasTheseBytes(t *testing.T) {
	r, n := rand.New(rand.NewSource(3)), 0
	for i := range 20000 {
		b := make([]byte, r.Intn(580))
		r.Read(b)
		if len(b) >= 8 && i%4 > 0 {
			b[2], b[3] = 0, 0
			sum := plainSum(string(b))
			b[2], b[3] = byte(sum>>8), byte(sum)
		}
		s := string(b)
		m, e := icmp.Read(s)
		switch {
		case len(s) < 8:
			wantNoRead(t, s, api.ErrShort)
		case len(s) > 566:
			wantNoRead(t, s, api.ErrLong)
		case plainSum(s) != 0:
			wantNoRead(t, s, api.ErrSum)
		default:
			if e != api.OK || m.Data != s[8:] {
				t.Fatalf("Read(%q): %s, %d", s, told(m), e)
			}
			if s[2:4] != "\xff\xff" {
				wantBytes(t, m, s)
			}
			n++
		}
	}
	if n < 10000 {
		t.Fatalf("but %d texts were read", n)
	}
}

func TestAnEchoHasWhatWasAskedWithAndIsAskedForByNobody(t *testing.T) {
	r, n := rand.New(rand.NewSource(4)), 0
	for range 20000 {
		m := randomMessage(r)
		if m.Kind != 8 || m.Code != 0 {
			wantNoEcho(t, m)
			continue
		}
		echo := api.Icmp{Rest: m.Rest, Data: m.Data}
		wantEcho(t, m, echo)
		wantNoEcho(t, echo)
		if s, e := icmp.Bytes(m); e == api.OK {
			// What may be asked may be answered, in as many bytes.
			back, e := icmp.Bytes(echo)
			if e != api.OK || len(back) != len(s) || back[4:] != s[4:] {
				t.Fatalf("Bytes(%s): %q, %d", told(echo), back, e)
			}
			wantRead(t, back, echo)
			n++
		}
	}
	if n < 2000 {
		t.Fatalf("but %d messages were answered", n)
	}
}

// What Unreachable tells may go, asks for no echo, and has the beginning of the packet.
func TestWhatIsUnreachableMayGo(t *testing.T) {
	r := rand.New(rand.NewSource(5))
	for i := range 20000 {
		b := make([]byte, r.Intn(i/20+1))
		r.Read(b)
		m := icmp.Unreachable(r.Int()-r.Int(), string(b))
		if len(m.Data) > len(b) || m.Data != string(b[:len(m.Data)]) {
			t.Fatalf("Unreachable of %q: %s", b, told(m))
		}
		s, e := icmp.Bytes(m)
		if e != api.OK {
			t.Fatalf("Bytes(%s): %d", told(m), e)
		}
		wantRead(t, s, m)
		wantNoEcho(t, m)
	}
}

// A packet's own head and 8 bytes of its Data are told of it.
func TestUnreachableTellsAPacketsHead(t *testing.T) {
	p := api.Packet{Id: 9, From: api.IP{10, 0, 0, 1}, To: api.IP{10, 0, 0, 2}, Proto: 17, Ttl: 64, Data: text(50)}
	s, e := ipv4.Bytes(p)
	if e != api.OK {
		t.Fatal(e)
	}
	wantUnreachable(t, 2, s, 2, s[:20]+p.Data[:8])
	p.Data = "short"
	s, _ = ipv4.Bytes(p)
	wantUnreachable(t, 2, s, 2, s)
}

func TestCallsKnowNothingOfOneAnother(t *testing.T) {
	m := api.Icmp{Kind: 8, Rest: 1, Data: "hi"}
	s := "\x08\x00\x8f\x95\x00\x00\x00\x01hi"
	for range 3 {
		wantBytes(t, m, s)
		wantRead(t, s, m)
		wantEcho(t, m, api.Icmp{Rest: 1, Data: "hi"})
		wantUnreachable(t, 2, s, 2, s)
		wantNoBytes(t, api.Icmp{Kind: 256, Rest: 2, Data: "other"}, api.ErrArg)
		wantNoBytes(t, api.Icmp{Kind: 1, Rest: 2, Data: text(559)}, api.ErrLong)
		wantNoRead(t, s[:7], api.ErrShort)
		wantNoRead(t, turned(s, 17), api.ErrSum)
		wantNoRead(t, text(567), api.ErrLong)
		wantNoEcho(t, api.Icmp{Kind: 8, Code: 1, Rest: 3, Data: "other"})
	}
}
