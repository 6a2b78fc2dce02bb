package stack_test

import (
	"math/rand"
	"slices"
	"strings"
	"testing"

	"blockyard/api"
	"blockyard/ether"
	"blockyard/icmp"
	"blockyard/ipv4"
)

// Messages

func TestEcho(t *testing.T) {
	x := plainly(t)
	for n := 0; n <= icmp.MaxIcmp; n += 1 + n/20 {
		m := api.Icmp{Kind: 8, Rest: uint32(n) << 20, Data: text(n)}
		x.in(x.icmpFrom(a, m), x.icmpTo(a, api.Icmp{Rest: m.Rest, Data: m.Data}))
	}
	for _, n := range []int{icmp.MaxIcmp - 1, icmp.MaxIcmp} {
		x.in(x.icmpFrom(a, api.Icmp{Kind: 8, Rest: 1<<32 - 1, Data: text(n)}), x.icmpTo(a, api.Icmp{Rest: 1<<32 - 1, Data: text(n)}))
	}
}

// Only what asks for an echo is answered: neither an echo, nor what tells that something is not there, or two stacks would talk for ever.
func TestOtherMessages(t *testing.T) {
	x := plainly(t)
	for kind := range 256 {
		for _, code := range []int{0, 1, 2, 8, 255} {
			if kind != 8 || code != 0 {
				x.drop(x.icmpFrom(a, api.Icmp{Kind: kind, Code: code, Rest: 5, Data: "ping"}))
			}
		}
	}
}

func TestNoMessage(t *testing.T) {
	x := plainly(t)
	whole := must(icmp.Bytes(api.Icmp{Kind: 8, Rest: 5, Data: "ping"}))
	for n := range 8 {
		x.drop(x.packetFrom(a, api.Packet{Proto: api.ProtoIcmp, Data: whole[:n]}))
	}
	for bit := range 8 * len(whole) {
		b := []byte(whole)
		b[bit/8] ^= 1 << (bit % 8)
		x.drop(x.packetFrom(a, api.Packet{Proto: api.ProtoIcmp, Data: string(b)}))
	}
	x.in(x.packetFrom(a, api.Packet{Proto: api.ProtoIcmp, Data: whole}), x.icmpTo(a, api.Icmp{Rest: 5, Data: "ping"}))
}

func TestEchoesToMany(t *testing.T) {
	x := plainly(t)
	for i := range 30 {
		x.ping(hostOf(i))
	}
	for i := range 30 {
		x.Frame(x.icmpFrom(hostOf(i), api.Icmp{Kind: 8, Rest: uint32(i)}), 0)
	}
	var want []string
	for i := range 30 {
		want = append(want, x.icmpTo(hostOf(i), api.Icmp{Rest: uint32(i)}))
	}
	x.wantOut(want...)
}

// Other protocols

// notSpoken is what goes to h of a frame whose packet has a protocol that is not spoken.
func (x *lab) notSpoken(h host, frame string, n int) string {
	return x.icmpTo(h, api.Icmp{Kind: 3, Code: 2, Data: frame[14 : 14+n]})
}

func TestOtherProtocols(t *testing.T) {
	x := plainly(t)
	for proto := range 256 {
		if proto == api.ProtoIcmp || proto == api.ProtoTcp {
			continue
		}
		f := x.packetFrom(a, api.Packet{Id: 9, Proto: proto, Data: "0123456789"})
		x.drop(f, x.notSpoken(a, f, 28))
		x.drop(strings.Repeat("\xff", 6) + f[6:])
	}
}

// What is told of it is the frame's Data: its head and eight bytes, those behind the packet too, but no more than there are.
func TestHowMuchIsToldOfOtherProtocols(t *testing.T) {
	x := plainly(t)
	for n := range 12 {
		f := x.packetFrom(a, api.Packet{Proto: 17, Data: text(n)})
		x.drop(f, x.notSpoken(a, f, 20+min(n, 8)))
		f += "behind"
		x.drop(f, x.notSpoken(a, f, 20+min(n+6, 8)))
		for units := 5; units <= 15; units++ {
			g := withOptions(f[:34+n], units)
			x.drop(g, x.notSpoken(a, g, 4*units+min(n, 8)))
		}
	}
	f := x.packetFrom(a, api.Packet{Proto: 17, Data: text(566)})
	x.drop(f, x.notSpoken(a, f, 28))
}

// It is told nobody of pieces, in whatever frame the last one comes.
func TestOtherProtocolsInPieces(t *testing.T) {
	x := plainly(t)
	whole := api.Packet{Id: 9, Proto: 17, Data: text(100)}
	for _, l := range [][]api.Packet{cut(whole, 8), cut(whole, 48), cut(whole, 96)} {
		for i, p := range l {
			if i < len(l)-1 {
				x.in(x.packetFrom(a, p))
			} else {
				x.drop(x.packetFrom(a, p))
			}
		}
		slices.Reverse(l)
		for i, p := range l {
			if i < len(l)-1 {
				x.in(x.packetFrom(a, p))
			} else {
				x.drop(x.packetFrom(a, p))
			}
		}
	}
	l := cut(whole, 48)
	for _, i := range []int{0, 2} {
		x.in(x.packetFrom(a, l[i]))
	}
	x.drop(x.packetFrom(a, l[1]))
	for last := range l {
		for i, p := range l {
			if i != last {
				x.in(x.packetFrom(a, p))
			}
		}
		x.drop(strings.Repeat("\xff", 6) + x.packetFrom(a, l[last])[6:])
	}
}

// Pieces

// cut is a packet in pieces of n bytes.
func cut(p api.Packet, n int) []api.Packet {
	var l []api.Packet
	for at := 0; at < len(p.Data); at += n {
		q := p
		q.At, q.More = at, at+n < len(p.Data)
		q.Data = p.Data[at:min(at+n, len(p.Data))]
		l = append(l, q)
	}
	return l
}

// echoIn is what asks for an echo in a packet of so many bytes of Data, and what answers it.
func echoIn(n, id int) (api.Packet, api.Icmp) {
	data := text(n - 8)
	sum := ipv4.Sum("\x08\x00\x00\x00" + "abcd" + data)
	ask := "\x08\x00" + string([]byte{byte(sum >> 8), byte(sum)}) + "abcd" + data
	return api.Packet{Id: id, Proto: api.ProtoIcmp, Ttl: 5, Data: ask}, api.Icmp{Rest: 0x61626364, Data: data}
}

func TestPiecesInAnyOrder(t *testing.T) {
	x := plainly(t)
	r := rand.New(rand.NewSource(1))
	for i := range 500 {
		p, echo := echoIn(9+r.Intn(558), i%65536)
		l := cut(p, 8*(1+r.Intn(30)))
		r.Shuffle(len(l), func(i, j int) { l[i], l[j] = l[j], l[i] })
		for _, q := range l[:len(l)-1] {
			x.in(x.packetFrom(a, q))
		}
		x.in(x.packetFrom(a, l[len(l)-1]), x.icmpTo(a, echo))
	}
}

// All pieces of what asks for an echo that is too long are taken; the whole is no message.
func TestWholesThatAreTooLong(t *testing.T) {
	x := plainly(t)
	for _, n := range []int{565, 566, 567, 568, 800, 1199, 1200} {
		p, echo := echoIn(n, 5)
		l := cut(p, 400)
		for _, q := range l[:len(l)-1] {
			x.in(x.packetFrom(a, q))
		}
		last := x.packetFrom(a, l[len(l)-1])
		if n <= 566 {
			x.in(last, x.icmpTo(a, echo))
		} else {
			x.drop(last)
		}
	}
	// What is longer is not put together at all.
	p, _ := echoIn(1201, 5)
	for _, q := range cut(p, 400) {
		x.in(x.packetFrom(a, q))
	}
}

// Pieces of several wholes are told apart by whose they are, their Ids and their protocols.
func TestPiecesBesideOthers(t *testing.T) {
	x := plainly(t)
	b := hostOf(2)
	p, echo := echoIn(100, 5)
	q := p
	q.Id = 6
	u := p
	u.Proto = 17
	first, last := func(p api.Packet) api.Packet { return cut(p, 56)[0] }, func(p api.Packet) api.Packet { return cut(p, 56)[1] }
	x.in(x.packetFrom(a, first(p)))
	x.in(x.packetFrom(a, first(q)))
	x.in(x.packetFrom(b, first(p)))
	x.in(x.packetFrom(a, first(u)))
	x.in(x.packetFrom(b, last(p)), x.icmpTo(b, echo))
	x.in(x.packetFrom(b, last(p)))
	x.drop(x.packetFrom(a, last(u)))
	x.in(x.packetFrom(a, last(p)), x.icmpTo(a, echo))
	x.ping(b)
	x.in(x.packetFrom(a, last(q)), x.icmpTo(a, echo))
}

// Of more wholes than may be under way the first one goes.
func TestPiecesOfTooMany(t *testing.T) {
	x := plainly(t)
	var l [][]api.Packet
	_, echo := echoIn(100, 0)
	for i := range 5 {
		p, _ := echoIn(100, i)
		l = append(l, cut(p, 56))
		x.in(x.packetFrom(a, l[i][0]))
	}
	for i := 1; i < 5; i++ {
		x.in(x.packetFrom(a, l[i][1]), x.icmpTo(a, echo))
	}
	x.in(x.packetFrom(a, l[0][1]))
}

func TestPiecesThatGrowTooOld(t *testing.T) {
	for _, parts := range []int{1, 2, 7} {
		n := usual()
		n.Parts = parts
		x := labOf(t, n)
		p, echo := echoIn(100, 5)
		l := cut(p, 48)
		x.in(x.packetFrom(a, l[2]))
		x.quiet(parts - 1)
		x.in(x.packetFrom(a, l[0]))
		x.in(x.packetFrom(a, l[1]), x.icmpTo(a, echo))
		x.in(x.packetFrom(a, l[2]))
		x.quiet(parts)
		x.in(x.packetFrom(a, l[0]))
		x.in(x.packetFrom(a, l[1]))
		x.in(x.packetFrom(a, l[2]), x.icmpTo(a, echo))
	}
}

// Pieces that can't be of one whole let it go; no frame is dropped for that.
func TestPiecesThatClash(t *testing.T) {
	x := plainly(t)
	p, echo := echoIn(100, 5)
	l := cut(p, 48)
	x.in(x.packetFrom(a, l[0]))
	x.in(x.packetFrom(a, l[0]))
	over := l[1]
	over.At = 40
	x.in(x.packetFrom(a, over))
	x.in(x.packetFrom(a, l[1]))
	x.in(x.packetFrom(a, l[2]))
	x.in(x.packetFrom(a, l[0]), x.icmpTo(a, echo))
}

// A whole packet is told at once, whatever pieces of its name there are.
func TestWholeBesidePieces(t *testing.T) {
	x := plainly(t)
	p, echo := echoIn(100, 5)
	l := cut(p, 56)
	x.in(x.packetFrom(a, l[0]))
	x.in(x.packetFrom(a, p), x.icmpTo(a, echo))
	x.in(x.packetFrom(a, l[1]), x.icmpTo(a, echo))
}

// Pieces may come in frames to the stack and to everybody.
func TestPiecesToEverybody(t *testing.T) {
	x := plainly(t)
	p, echo := echoIn(100, 5)
	l := cut(p, 56)
	everybody := ether.Everybody()
	x.in(string(everybody[:]) + x.packetFrom(a, l[1])[6:])
	x.in(x.packetFrom(a, l[0]), x.icmpTo(a, echo))
	u := p
	u.Proto = 17
	l = cut(u, 56)
	x.in(string(everybody[:]) + x.packetFrom(a, l[0])[6:])
	x.drop(x.packetFrom(a, l[1]))
}

func TestSegmentInPieces(t *testing.T) {
	r := rand.New(rand.NewSource(2))
	for range 100 {
		x := plainly(t)
		c := x.client(a, 7, 1)
		syn := c.synSeg()
		syn.Data = "data that do not count"
		l := cut(api.Packet{Id: 3, Proto: api.ProtoTcp, Data: x.tcpBytes(a, syn)}, 8*(1+r.Intn(5)))
		r.Shuffle(len(l), func(i, j int) { l[i], l[j] = l[j], l[i] })
		for _, p := range l[:len(l)-1] {
			x.Frame(x.packetFrom(a, p), 1)
			x.wantOut()
		}
		x.Frame(x.packetFrom(a, l[len(l)-1]), c.mine-1)
		x.wantOut(c.saysSyn())
		l = cut(api.Packet{Id: 3, Proto: api.ProtoTcp, Data: x.tcpBytes(a, c.seg(api.Ack, 0, 0, text(536)))}, 8*(1+r.Intn(69)))
		for _, p := range l[:len(l)-1] {
			x.in(x.packetFrom(a, p))
		}
		x.in(x.packetFrom(a, l[len(l)-1]), c.says(0, 0, 536, 2048-536, ""))
		if s := x.Read(1, 999); s != text(536) {
			t.Errorf("Read: %q", s)
		}
	}
}
