package arp_test

import (
	"math/rand"
	"testing"

	"blockyard/api"
	"blockyard/arp"
)

// P7.5

func randomPacket(r *rand.Rand) api.Arp {
	a := api.Arp{Op: r.Intn(5) - 1}
	r.Read(a.Mac[:])
	r.Read(a.IP[:])
	r.Read(a.ToMac[:])
	r.Read(a.ToIP[:])
	return a
}

func TestWhatHasBytesIsReadFromThem(t *testing.T) {
	r := rand.New(rand.NewSource(1))
	for range 20000 {
		a := randomPacket(r)
		s, e := arp.Bytes(a)
		if (e == api.OK) != (a.Op == 1 || a.Op == 2) {
			t.Fatalf("Bytes(%v): %d", a, e)
		}
		if e != api.OK {
			continue
		}
		if len(s) != size {
			t.Fatalf("Bytes(%v): %q", a, s)
		}
		wantRead(t, s, a)
		wantRead(t, s+s[:r.Intn(size)], a)
	}
}

func TestWhatIsReadHasJustTheseBytes(t *testing.T) {
	r := rand.New(rand.NewSource(2))
	for range 20000 {
		b := make([]byte, r.Intn(40))
		r.Read(b)
		copy(b, head+"\x00")
		if len(b) > 7 {
			b[7] %= 4
		}
		a, e := arp.Read(string(b))
		if (e == api.OK) != (len(b) >= size && (b[7] == 1 || b[7] == 2)) {
			t.Fatalf("Read(%q): %d", b, e)
		}
		if e == api.OK {
			wantBytes(t, a, string(b[:size]))
		}
	}
}

// An answer is one that has bytes, answers nothing, and is of use to who asked.
func TestAnswersHaveBytes(t *testing.T) {
	r := rand.New(rand.NewSource(3))
	for range 5000 {
		a := randomPacket(r)
		mac := randomPacket(r).Mac
		b, ok := arp.Answer(a, a.ToIP, mac)
		if ok != (a.Op == 1) {
			t.Fatalf("Answer(%v): %v", a, ok)
		}
		if !ok {
			continue
		}
		s, e := arp.Bytes(b)
		if e != api.OK {
			t.Fatalf("Bytes(%v): %d", b, e)
		}
		wantRead(t, s, b)
		wantNoAnswer(t, b, b.ToIP, a.Mac)
		c := made(t, 1)
		c.Learn(b.IP, b.Mac)
		wantFind(t, c, a.ToIP, mac)
	}
}

// book is a plain list of what was learnt, and when, the whole of it, which says what must be found, and what must not.
type book struct {
	limit, now int
	learnt     []note
}

type note struct {
	when int
	ip   api.IP
	mac  api.Mac
}

// last is the last time that ip was learnt.
func (b *book) last(ip api.IP) (note, bool) {
	for i := len(b.learnt) - 1; i >= 0; i-- {
		if b.learnt[i].ip == ip {
			return b.learnt[i], true
		}
	}
	return note{}, false
}

// others is how many other addresses were learnt since the Tick ahead of x.
func (b *book) others(x note) int {
	others := map[api.IP]bool{}
	for _, y := range b.learnt {
		if y.when >= x.when && y.ip != x.ip {
			others[y.ip] = true
		}
	}
	return len(others)
}

func (b *book) hold(t *testing.T, c *arp.Cache, ip api.IP) {
	t.Helper()
	mac, found := c.Find(ip)
	x, ok := b.last(ip)
	young := ok && b.now-x.when < b.limit
	if found && (!young || mac != x.mac) {
		t.Fatalf("Find(%v): %v, but %v was learnt at %d, and now is %d", ip, mac, x.mac, x.when, b.now)
	}
	if !found && mac != (api.Mac{}) {
		t.Fatalf("Find(%v): %v beside false", ip, mac)
	}
	if !found && young && b.others(x) < api.MaxArp {
		t.Fatalf("Find(%v): false, but it was learnt at %d, and now is %d", ip, x.when, b.now)
	}
}

func TestWhatIsFoundWasLearnt(t *testing.T) {
	for seed := range int64(300) {
		r := rand.New(rand.NewSource(seed))
		b := book{limit: 1 + r.Intn(6)}
		c := made(t, b.limit)
		many, often := 2+r.Intn(14), 1+r.Intn(9)
		for range 150 {
			if r.Intn(often+1) == 0 {
				c.Tick()
				b.now++
			} else {
				x := note{when: b.now, ip: ipOf(r.Intn(many)), mac: macOf(r.Intn(1000))}
				c.Learn(x.ip, x.mac)
				b.learnt = append(b.learnt, x)
			}
			n := 0
			for i := range many {
				b.hold(t, c, ipOf(i))
				if _, ok := c.Find(ipOf(i)); ok {
					n++
				}
			}
			wantLen(t, c, n)
		}
	}
}

// plain does by other means what a cache does: each entry has the numbers of the call by which it came to be there and of the Tick that was last when it was learnt.
type plain struct {
	limit, now, calls int
	entries           map[api.IP]kept
}

type kept struct {
	came, when int
	mac        api.Mac
}

func (p *plain) learn(ip api.IP, mac api.Mac) {
	p.calls++
	x, ok := p.entries[ip]
	if !ok {
		x.came = p.calls
	}
	if !ok && len(p.entries) == 8 {
		delete(p.entries, p.oldest())
	}
	p.entries[ip] = kept{came: x.came, when: p.now, mac: mac}
}

func (p *plain) oldest() api.IP {
	var oldest api.IP
	var first *kept
	for ip, x := range p.entries {
		if first == nil || x.when < first.when || x.when == first.when && x.came < first.came {
			oldest, first = ip, &x
		}
	}
	return oldest
}

func (p *plain) tick() {
	p.now++
	for ip, x := range p.entries {
		if p.now-x.when >= p.limit {
			delete(p.entries, ip)
		}
	}
}

func TestACacheIsAsAPlainOne(t *testing.T) {
	for seed := range int64(500) {
		r := rand.New(rand.NewSource(seed))
		limit := 1 + r.Intn(8)
		c, p := made(t, limit), &plain{limit: limit, entries: map[api.IP]kept{}}
		many, often := 6+r.Intn(10), 1+r.Intn(12)
		for range 200 {
			if r.Intn(often+1) == 0 {
				c.Tick()
				p.tick()
			} else {
				ip, mac := ipOf(r.Intn(many)), macOf(r.Intn(1000))
				c.Learn(ip, mac)
				p.learn(ip, mac)
			}
			wantLen(t, c, len(p.entries))
			for i := range many {
				if x, ok := p.entries[ipOf(i)]; ok {
					wantFind(t, c, ipOf(i), x.mac)
				} else {
					wantNoFind(t, c, ipOf(i))
				}
			}
		}
	}
}

// What was learnt fewer than limit Ticks ago is found with seven others since the Tick ahead of that, on whichever side of it they were learnt.
func TestSevenOthersAreNoMatter(t *testing.T) {
	for ahead := range 8 {
		c := made(t, 2)
		learn(c, 10, 11, 12, 13, 14, 15, 16, 17)
		c.Tick()
		for i := range ahead {
			learn(c, i)
		}
		learn(c, 20)
		for i := ahead; i < 7; i++ {
			learn(c, i)
		}
		wantJust(t, c, 20, 0, 1, 2, 3, 4, 5, 6)
		c.Tick()
		wantJust(t, c, 20, 0, 1, 2, 3, 4, 5, 6)
		c.Tick()
		wantJust(t, c)
	}
}

func TestCallsKnowNothingOfOneAnother(t *testing.T) {
	s := head + "\x00\x01" + fromAToB
	for range 3 {
		wantBytes(t, packet(1), s)
		wantRead(t, s, packet(1))
		wantNoBytes(t, packet(3))
		wantNoRead(t, s[:27], api.ErrShort)
		wantNoAnswer(t, packet(1), ipA, macA)
		wantAnswer(t, packet(1), ipB, macB, api.Arp{Op: 2, Mac: macB, IP: ipB, ToMac: macA, ToIP: ipA})
		a, _ := arp.Read(s)
		a.Mac[0], a.IP[0], a.ToMac[0], a.ToIP[0] = 9, 9, 9, 9
	}
}
