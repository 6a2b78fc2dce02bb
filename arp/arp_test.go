package arp_test

import (
	"math"
	"strings"
	"testing"

	"blockyard/api"
	"blockyard/arp"
)

const (
	head = "\x00\x01\x08\x00\x06\x04"
	size = 28
)

// The addresses of the packets here, and their bytes, all unlike.
var (
	macA = api.Mac{1, 2, 3, 4, 5, 6}
	macB = api.Mac{11, 12, 13, 14, 15, 16}
	ipA  = api.IP{21, 22, 23, 24}
	ipB  = api.IP{31, 32, 33, 34}
)

const (
	macABytes = "\x01\x02\x03\x04\x05\x06"
	macBBytes = "\x0b\x0c\x0d\x0e\x0f\x10"
	ipABytes  = "\x15\x16\x17\x18"
	ipBBytes  = "\x1f\x20\x21\x22"
)

const fromAToB = macABytes + ipABytes + macBBytes + ipBBytes

func packet(op int) api.Arp {
	return api.Arp{Op: op, Mac: macA, IP: ipA, ToMac: macB, ToIP: ipB}
}

func wantBytes(t *testing.T, a api.Arp, want string) {
	t.Helper()
	if s, e := arp.Bytes(a); s != want || e != api.OK {
		t.Fatalf("Bytes(%v): %q, %d, not %q", a, s, e, want)
	}
}

func wantNoBytes(t *testing.T, a api.Arp) {
	t.Helper()
	if s, e := arp.Bytes(a); s != "" || e != api.ErrKind {
		t.Fatalf("Bytes(%v): %q, %d, not ErrKind", a, s, e)
	}
}

func wantRead(t *testing.T, s string, want api.Arp) {
	t.Helper()
	if a, e := arp.Read(s); a != want || e != api.OK {
		t.Fatalf("Read(%q): %v, %d, not %v", s, a, e, want)
	}
}

func wantNoRead(t *testing.T, s string, want api.Errno) {
	t.Helper()
	if a, e := arp.Read(s); a != (api.Arp{}) || e != want {
		t.Fatalf("Read(%q): %v, %d, not error %d", s, a, e, want)
	}
}

func wantAnswer(t *testing.T, a api.Arp, ip api.IP, mac api.Mac, want api.Arp) {
	t.Helper()
	if got, ok := arp.Answer(a, ip, mac); got != want || !ok {
		t.Fatalf("Answer(%v, %v, %v): %v, %v, not %v", a, ip, mac, got, ok, want)
	}
}

func wantNoAnswer(t *testing.T, a api.Arp, ip api.IP, mac api.Mac) {
	t.Helper()
	if got, ok := arp.Answer(a, ip, mac); got != (api.Arp{}) || ok {
		t.Fatalf("Answer(%v, %v, %v): %v, %v, not false", a, ip, mac, got, ok)
	}
}

// wrongOps are neither 1 nor 2: on either side of them, far off, and such that their lowest bytes look well.
func wrongOps() []int {
	return []int{0, 3, 4, 8, 255, 256, 257, 258, 512, 65535, 65536, 65536 + 1, 65536 + 2, 1<<32 + 1, 1<<32 + 2, math.MaxInt,
		-1, -2, -3, -255, -65535, -65536 + 2, math.MinInt, math.MinInt + 1, math.MinInt + 2}
}

// P7.1: Bytes

func TestBytesOfTheExample(t *testing.T) {
	a := api.Arp{Op: 1, Mac: api.Mac{5: 1, 0: 2}, IP: api.IP{10, 0, 0, 1}, ToIP: api.IP{10, 0, 0, 2}}
	wantBytes(t, a, "\x00\x01\x08\x00\x06\x04\x00\x01\x02\x00\x00\x00\x00\x01\x0a\x00\x00\x01\x00\x00\x00\x00\x00\x00\x0a\x00\x00\x02")
}

func TestBytesOfEachKind(t *testing.T) {
	wantBytes(t, packet(1), head+"\x00\x01"+fromAToB)
	wantBytes(t, packet(2), head+"\x00\x02"+fromAToB)
	wantBytes(t, api.Arp{Op: 1}, head+"\x00\x01"+strings.Repeat("\x00", 20))
	wantBytes(t, api.Arp{Op: 2}, head+"\x00\x02"+strings.Repeat("\x00", 20))
}

func TestBytesOfEachAddress(t *testing.T) {
	wantBytes(t, api.Arp{Op: 2, Mac: macA}, head+"\x00\x02"+macABytes+strings.Repeat("\x00", 14))
	wantBytes(t, api.Arp{Op: 2, IP: ipA}, head+"\x00\x02"+strings.Repeat("\x00", 6)+ipABytes+strings.Repeat("\x00", 10))
	wantBytes(t, api.Arp{Op: 2, ToMac: macA}, head+"\x00\x02"+strings.Repeat("\x00", 10)+macABytes+strings.Repeat("\x00", 4))
	wantBytes(t, api.Arp{Op: 2, ToIP: ipA}, head+"\x00\x02"+strings.Repeat("\x00", 16)+ipABytes)
	all := api.Mac{255, 255, 255, 255, 255, 255}
	wantBytes(t, api.Arp{Op: 1, Mac: all, IP: api.IP{255, 255, 255, 255}, ToMac: all, ToIP: api.IP{255, 255, 255, 255}}, head+"\x00\x01"+strings.Repeat("\xff", 20))
}

func TestBytesOfWrongKinds(t *testing.T) {
	for _, op := range wrongOps() {
		wantNoBytes(t, packet(op))
		wantNoBytes(t, api.Arp{Op: op})
	}
	for op := -1000; op < 70000; op++ {
		if op != 1 && op != 2 {
			wantNoBytes(t, packet(op))
		}
	}
}

// P7.1: Read

func TestReadOfTheExample(t *testing.T) {
	want := api.Arp{Op: 1, Mac: api.Mac{5: 1, 0: 2}, IP: api.IP{10, 0, 0, 1}, ToIP: api.IP{10, 0, 0, 2}}
	wantRead(t, "\x00\x01\x08\x00\x06\x04\x00\x01\x02\x00\x00\x00\x00\x01\x0a\x00\x00\x01\x00\x00\x00\x00\x00\x00\x0a\x00\x00\x02", want)
}

func TestReadOfEachKind(t *testing.T) {
	for x := range 65536 {
		s := head + string([]byte{byte(x / 256), byte(x % 256)}) + fromAToB
		if x == 1 || x == 2 {
			wantRead(t, s, packet(x))
		} else {
			wantNoRead(t, s, api.ErrKind)
		}
	}
}

func TestReadOfEachLength(t *testing.T) {
	for _, op := range []int{1, 2} {
		whole := head + "\x00" + string([]byte{byte(op)}) + fromAToB + strings.Repeat("\xff\x00x", 500)
		for n := range len(whole) {
			if n < 28 {
				wantNoRead(t, whole[:n], api.ErrShort)
			} else {
				wantRead(t, whole[:n], packet(op))
			}
		}
	}
}

func TestReadLetsBeWhatStandsBehind(t *testing.T) {
	s := head + "\x00\x02" + fromAToB
	for _, behind := range []string{"\x00", "x", "padding", strings.Repeat("\x00", 18), s, head, strings.Repeat("\xff", 70000)} {
		wantRead(t, s+behind, packet(2))
	}
}

// Each bit and each value of the first six bytes counts.
func TestReadOfAnotherHead(t *testing.T) {
	s := head + "\x00\x02" + fromAToB
	for i := range 6 {
		for x := range 256 {
			b := []byte(s)
			b[i] = byte(x)
			if b[i] == s[i] {
				wantRead(t, string(b), packet(2))
			} else {
				wantNoRead(t, string(b), api.ErrForm)
				wantNoRead(t, string(b)+"behind", api.ErrForm)
			}
		}
	}
}

func TestReadOfSomeOtherHeads(t *testing.T) {
	for _, other := range []string{"\x01\x00\x00\x08\x06\x04", "\x00\x01\x08\x00\x04\x06", "\x00\x01\x86\xdd\x06\x10", "\x08\x00\x00\x01\x06\x04", "\x00\x00\x00\x00\x00\x00", "\xff\xff\xff\xff\xff\xff"} {
		wantNoRead(t, other+"\x00\x01"+fromAToB, api.ErrForm)
		wantNoRead(t, other+"\x00\x02"+fromAToB, api.ErrForm)
	}
}

// ErrShort is ahead of ErrForm, that ahead of ErrKind.
func TestReadTellsTheFirstFault(t *testing.T) {
	for i := range 6 {
		b := []byte(head + "\x00\x03" + fromAToB)
		b[i] ^= 1
		wantNoRead(t, string(b), api.ErrForm)
		for n := range 28 {
			wantNoRead(t, string(b[:n]), api.ErrShort)
		}
	}
	kind := head + "\x00\x03" + fromAToB
	wantNoRead(t, kind, api.ErrKind)
	for n := range 28 {
		wantNoRead(t, kind[:n], api.ErrShort)
	}
}

// P7.2

func TestAnswerOfTheExample(t *testing.T) {
	asking := api.Arp{Op: 1, Mac: api.Mac{5: 1, 0: 2}, IP: api.IP{10, 0, 0, 1}, ToIP: api.IP{10, 0, 0, 2}}
	mine := api.Mac{5: 2, 0: 2}
	wantAnswer(t, asking, api.IP{10, 0, 0, 2}, mine, api.Arp{Op: 2, Mac: mine, IP: api.IP{10, 0, 0, 2}, ToMac: asking.Mac, ToIP: api.IP{10, 0, 0, 1}})
	wantNoAnswer(t, asking, api.IP{10, 0, 0, 3}, mine)
}

func TestAnswerToAnyAsker(t *testing.T) {
	mine := api.Mac{41, 42, 43, 44, 45, 46}
	for _, mac := range []api.Mac{macA, macB, {}, mine, {255, 255, 255, 255, 255, 255}} {
		// It asks for itself, too; and which Mac it goes to does not count.
		for _, ip := range []api.IP{ipA, ipB, {}, {255, 255, 255, 255}} {
			for _, toMac := range []api.Mac{{}, macA, mine, {255, 255, 255, 255, 255, 255}} {
				asking := api.Arp{Op: 1, Mac: mac, IP: ip, ToMac: toMac, ToIP: ipB}
				wantAnswer(t, asking, ipB, mine, api.Arp{Op: 2, Mac: mine, IP: ipB, ToMac: mac, ToIP: ip})
				wantNoAnswer(t, asking, ipA, mine)
			}
		}
	}
	wantAnswer(t, api.Arp{Op: 1}, api.IP{}, api.Mac{}, api.Arp{Op: 2})
}

func TestNoAnswerToWhatDoesNotAsk(t *testing.T) {
	wantAnswer(t, packet(1), ipB, macB, api.Arp{Op: 2, Mac: macB, IP: ipB, ToMac: macA, ToIP: ipA})
	for _, op := range append(wrongOps(), 2) {
		wantNoAnswer(t, packet(op), ipB, macB)
		wantNoAnswer(t, api.Arp{Op: op}, api.IP{}, api.Mac{})
	}
}

func TestNoAnswerForWhatIsNearlyAsked(t *testing.T) {
	for i := range 32 {
		near := ipB
		near[i/8] ^= 1 << (i % 8)
		wantNoAnswer(t, packet(1), near, macB)
		asking := packet(1)
		asking.ToIP = near
		wantNoAnswer(t, asking, ipB, macB)
	}
	wantNoAnswer(t, packet(1), ipA, macB) // it is the one who asks
	wantNoAnswer(t, packet(1), api.IP{}, macB)
	wantNoAnswer(t, packet(1), api.IP{34, 33, 32, 31}, macB)
}

// P7.3

func made(t *testing.T, limit int) *arp.Cache {
	t.Helper()
	c, e := arp.New(limit)
	if c == nil || e != api.OK {
		t.Fatalf("New(%d): %v, %d", limit, c, e)
	}
	wantLen(t, c, 0)
	return c
}

func wantLen(t *testing.T, c *arp.Cache, want int) {
	t.Helper()
	if n := c.Len(); n != want {
		t.Fatalf("Len: %d, not %d", n, want)
	}
}

func wantFind(t *testing.T, c *arp.Cache, ip api.IP, want api.Mac) {
	t.Helper()
	if mac, ok := c.Find(ip); mac != want || !ok {
		t.Fatalf("Find(%v): %v, %v, not %v", ip, mac, ok, want)
	}
}

func wantNoFind(t *testing.T, c *arp.Cache, ip api.IP) {
	t.Helper()
	if mac, ok := c.Find(ip); mac != (api.Mac{}) || ok {
		t.Fatalf("Find(%v): %v, %v, not false", ip, mac, ok)
	}
}

func ticks(c *arp.Cache, n int) {
	for range n {
		c.Tick()
	}
}

func ipOf(i int) api.IP   { return api.IP{10, 0, byte(i >> 8), byte(i)} }
func macOf(i int) api.Mac { return api.Mac{2, 0, 0, 1, byte(i >> 8), byte(i)} }

// learn learns the i-th addresses, each of which has the i-th Mac.
func learn(c *arp.Cache, each ...int) {
	for _, i := range each {
		c.Learn(ipOf(i), macOf(i))
	}
}

// wantJust holds that of the first 40 addresses just these are there, each with its Mac.
func wantJust(t *testing.T, c *arp.Cache, each ...int) {
	t.Helper()
	wantLen(t, c, len(each))
	there := map[int]bool{}
	for _, i := range each {
		there[i] = true
	}
	for i := range 40 {
		if there[i] {
			wantFind(t, c, ipOf(i), macOf(i))
		} else {
			wantNoFind(t, c, ipOf(i))
		}
	}
}

func TestNewHasNoEntries(t *testing.T) {
	for _, limit := range []int{1, 2, 3, 8, 9, 255, 256, 65536, 1<<20 - 1, 1 << 20} {
		wantJust(t, made(t, limit))
		wantNoFind(t, made(t, limit), api.IP{})
	}
}

func TestNewRefuses(t *testing.T) {
	for _, limit := range []int{0, -1, -2, -1 << 20, math.MinInt, math.MinInt + 1, 1<<20 + 1, 1<<20 + 2, 1 << 21, 1 << 32, 1<<32 + 1, math.MaxInt} {
		if c, e := arp.New(limit); c != nil || e != api.ErrArg {
			t.Errorf("New(%d): %v, %d, not ErrArg", limit, c, e)
		}
	}
}

func TestExampleOfACache(t *testing.T) {
	c := made(t, 2)
	c.Learn(api.IP{10, 0, 0, 1}, macA)
	c.Tick()
	wantFind(t, c, api.IP{10, 0, 0, 1}, macA)
	c.Tick()
	wantNoFind(t, c, api.IP{10, 0, 0, 1})
	wantLen(t, c, 0)
}

func TestLearnAndFind(t *testing.T) {
	c := made(t, 3)
	c.Learn(ipA, macA)
	wantFind(t, c, ipA, macA)
	wantNoFind(t, c, ipB)
	c.Learn(ipB, macA) // two may have one Mac
	wantFind(t, c, ipB, macA)
	wantFind(t, c, ipA, macA)
	wantLen(t, c, 2)
}

// An address of noughts, and one that has it, are as any others.
func TestNoughtsAreAnAddress(t *testing.T) {
	c := made(t, 2)
	wantNoFind(t, c, api.IP{})
	c.Learn(api.IP{}, macA)
	c.Learn(ipA, api.Mac{})
	wantFind(t, c, api.IP{}, macA)
	wantFind(t, c, ipA, api.Mac{})
	wantLen(t, c, 2)
	ticks(c, 2)
	wantNoFind(t, c, api.IP{})
	wantNoFind(t, c, ipA)
	wantLen(t, c, 0)
}

func TestAddressesThatAreNearlyAlike(t *testing.T) {
	for i := range 32 {
		near := ipA
		near[i/8] ^= 1 << (i % 8)
		c := made(t, 2)
		c.Learn(ipA, macA)
		wantNoFind(t, c, near)
		c.Learn(near, macB)
		wantFind(t, c, ipA, macA)
		wantFind(t, c, near, macB)
		wantLen(t, c, 2)
	}
	for i := range 48 {
		near := macA
		near[i/8] ^= 1 << (i % 8)
		c := made(t, 2)
		c.Learn(ipA, macA)
		c.Learn(ipA, near)
		wantFind(t, c, ipA, near)
		wantLen(t, c, 1)
	}
}

func TestAddressesThatDifferInOneByte(t *testing.T) {
	for i := range 4 {
		for x := range 256 {
			near := ipA
			near[i] = byte(x)
			c := made(t, 1)
			c.Learn(ipA, macA)
			if near == ipA {
				wantFind(t, c, near, macA)
				continue
			}
			wantNoFind(t, c, near)
			c.Learn(near, macB)
			wantFind(t, c, near, macB)
			wantFind(t, c, ipA, macA)
		}
	}
}

func TestLearnAgain(t *testing.T) {
	c := made(t, 3)
	c.Learn(ipA, macA)
	c.Learn(ipA, macA)
	wantFind(t, c, ipA, macA)
	wantLen(t, c, 1)
	c.Learn(ipA, macB)
	wantFind(t, c, ipA, macB)
	wantLen(t, c, 1)
}

func TestLearnAgainMakesYoung(t *testing.T) {
	for _, again := range []api.Mac{macA, macB} {
		c := made(t, 3)
		c.Learn(ipA, macA)
		c.Learn(ipB, macA)
		ticks(c, 2)
		c.Learn(ipA, again)
		wantFind(t, c, ipB, macA)
		c.Tick()
		wantFind(t, c, ipA, again)
		wantNoFind(t, c, ipB)
		c.Tick()
		wantFind(t, c, ipA, again)
		c.Tick()
		wantNoFind(t, c, ipA)
		wantLen(t, c, 0)
	}
}

func TestFindMakesNothingYoung(t *testing.T) {
	c := made(t, 3)
	learn(c, 0)
	for range 2 {
		c.Tick()
		wantFind(t, c, ipOf(0), macOf(0))
	}
	c.Tick()
	wantNoFind(t, c, ipOf(0))
}

func TestEntriesGoAtTheLimit(t *testing.T) {
	for _, limit := range []int{1, 2, 3, 7, 8, 9, 255, 256, 257, 65535, 65536, 1<<20 - 1, 1 << 20} {
		c := made(t, limit)
		learn(c, 0, 1)
		ticks(c, limit-1)
		wantJust(t, c, 0, 1)
		c.Tick()
		wantJust(t, c)
	}
}

func TestEachEntryHasItsAge(t *testing.T) {
	c := made(t, 4)
	for i := range 20 {
		learn(c, i)
		if i >= 3 {
			wantJust(t, c, i-3, i-2, i-1, i)
		}
		c.Tick()
	}
	wantJust(t, c, 17, 18, 19)
	c.Tick()
	wantJust(t, c, 18, 19)
	c.Tick()
	wantJust(t, c, 19)
	c.Tick()
	wantJust(t, c)
	c.Tick()
	wantJust(t, c)
}

// Those that go at one Tick may stand anywhere among those that stay.
func TestThoseThatAreTooOldGoFromAmongTheOthers(t *testing.T) {
	for which := range 256 {
		c := made(t, 2)
		learn(c, 0, 1, 2, 3, 4, 5, 6, 7)
		c.Tick()
		var again []int
		for i := range 8 {
			if which>>i&1 != 0 {
				again = append(again, i)
			}
		}
		learn(c, again...)
		wantJust(t, c, 0, 1, 2, 3, 4, 5, 6, 7)
		c.Tick()
		wantJust(t, c, again...)
	}
}

func TestThereAnewBehindTheLimit(t *testing.T) {
	c := made(t, 2)
	learn(c, 0)
	ticks(c, 2)
	learn(c, 0)
	wantJust(t, c, 0)
	c.Tick()
	wantJust(t, c, 0)
	c.Tick()
	wantJust(t, c)
}

func TestAsManyAsThereMayBe(t *testing.T) {
	c := made(t, 5)
	for i := range 8 {
		wantLen(t, c, i)
		learn(c, i)
	}
	wantJust(t, c, 0, 1, 2, 3, 4, 5, 6, 7)
	// Those that are there let nothing go.
	learn(c, 7, 0, 3)
	wantJust(t, c, 0, 1, 2, 3, 4, 5, 6, 7)
}

func TestOfEquallyOldOnesTheFirstGoes(t *testing.T) {
	c := made(t, 5)
	learn(c, 0, 1, 2, 3, 4, 5, 6, 7)
	for i := 8; i < 30; i++ {
		learn(c, i)
		wantJust(t, c, i-7, i-6, i-5, i-4, i-3, i-2, i-1, i)
	}
	c.Tick()
	learn(c, 30, 31)
	wantJust(t, c, 24, 25, 26, 27, 28, 29, 30, 31)
}

func TestTheOldestGoes(t *testing.T) {
	for oldest := range 8 {
		c := made(t, 9)
		learn(c, 0, 1, 2, 3, 4, 5, 6, 7)
		c.Tick()
		for i := range 8 {
			if i != oldest {
				learn(c, i)
			}
		}
		learn(c, 8)
		left := []int{8}
		for i := range 8 {
			if i != oldest {
				left = append(left, i)
			}
		}
		wantJust(t, c, left...)
	}
}

// The order in which they go is that of their ages, whatever the one in which they came to be there.
func TestTheyGoByTheirAges(t *testing.T) {
	c := made(t, 20)
	learn(c, 0, 1, 2, 3, 4, 5, 6, 7)
	order := []int{5, 2, 7, 0, 3, 6, 1, 4}
	for _, i := range order {
		c.Tick()
		learn(c, i)
	}
	for n := range order {
		learn(c, 8+n)
		left := append([]int{}, order[n+1:]...)
		for i := range n + 1 {
			left = append(left, 8+i)
		}
		wantJust(t, c, left...)
	}
}

// An entry that is learnt again makes none anew: of those that are equally old it goes as the one that was there first.
func TestLearnAgainStaysInItsPlace(t *testing.T) {
	c := made(t, 5)
	learn(c, 0, 1, 2, 3, 4, 5, 6, 7)
	learn(c, 0)
	learn(c, 8)
	wantJust(t, c, 1, 2, 3, 4, 5, 6, 7, 8)
	c.Tick()
	learn(c, 8, 7, 6, 5, 4, 3, 2, 1)
	learn(c, 9)
	wantJust(t, c, 2, 3, 4, 5, 6, 7, 8, 9)
}

// One that went, and is learnt once more, is there anew: it stands behind the others.
func TestThereAnewStandsBehind(t *testing.T) {
	c := made(t, 5)
	learn(c, 0, 1, 2, 3, 4, 5, 6, 7)
	learn(c, 8)
	learn(c, 0)
	wantJust(t, c, 2, 3, 4, 5, 6, 7, 8, 0)
	learn(c, 9, 10, 11, 12, 13, 14, 15)
	wantJust(t, c, 0, 9, 10, 11, 12, 13, 14, 15)
	learn(c, 16)
	wantJust(t, c, 9, 10, 11, 12, 13, 14, 15, 16)
}

// What is too old is not there any more: it makes room, and nothing else goes.
func TestWhatIsTooOldMakesRoom(t *testing.T) {
	c := made(t, 2)
	learn(c, 0, 1, 2)
	c.Tick()
	learn(c, 3, 4, 5, 6, 7)
	c.Tick()
	wantJust(t, c, 3, 4, 5, 6, 7)
	learn(c, 8, 9, 10)
	wantJust(t, c, 3, 4, 5, 6, 7, 8, 9, 10)
	learn(c, 11)
	wantJust(t, c, 4, 5, 6, 7, 8, 9, 10, 11)
}

func TestCachesAreApart(t *testing.T) {
	c, d := made(t, 2), made(t, 3)
	learn(c, 0)
	learn(d, 1)
	wantJust(t, c, 0)
	wantJust(t, d, 1)
	ticks(c, 2)
	wantJust(t, c)
	wantJust(t, d, 1)
	learn(c, 1, 2, 3, 4, 5, 6, 7, 8, 9)
	wantJust(t, d, 1)
}

// P7.4

func TestNone(t *testing.T) {
	for name, c := range map[string]*arp.Cache{"nil": nil, "zero": {}, "new": new(arp.Cache)} {
		for range 10 {
			c.Learn(ipA, macA)
			if mac, ok := c.Find(ipA); mac != (api.Mac{}) || ok {
				t.Fatalf("%s: Find: %v, %v", name, mac, ok)
			}
			c.Tick()
			if n := c.Len(); n != 0 {
				t.Fatalf("%s: Len: %d", name, n)
			}
		}
		wantNoFind(t, c, api.IP{})
	}
}

// A copy of what New made is none, and does nothing to what New made.
func TestCopyIsNone(t *testing.T) {
	c := made(t, 3)
	learn(c, 0, 1)
	d := *c
	wantNoFind(t, &d, ipOf(0))
	wantLen(t, &d, 0)
	d.Learn(ipOf(0), macB)
	learn(&d, 2, 3, 4, 5, 6, 7, 8, 9)
	ticks(&d, 5)
	wantNoFind(t, &d, ipOf(2))
	wantLen(t, &d, 0)
	wantJust(t, c, 0, 1)
	ticks(c, 2)
	wantJust(t, c, 0, 1)
	c.Tick()
	wantJust(t, c)
}
