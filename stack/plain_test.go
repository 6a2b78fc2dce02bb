package stack_test

import (
	"math/rand"
	"slices"
	"testing"

	"blockyard/api"
	"blockyard/conn"
	"blockyard/ipv4"
	"blockyard/stack"
)

// plain does by other means what a stack does: it takes frames apart byte by byte, keeps all that was ever learnt and all connections that ever began, and puts together what goes out itself.
type plain struct {
	n      api.Net
	now    int
	learnt []lesson
	joiner *ipv4.Joiner
	conns  []*plainConn // the number 1 first
	sent   int
	out    []string
	drops  int
}

// lesson is that an address was learnt, and when. Those of one address that does not grow too old are one, that stands where the first one did.
type lesson struct {
	host
	at int
}

type plainConn struct {
	*conn.Conn
	ip   api.IP
	port int
	went bool
	// last is what was sent last: by it one knows what the other end should say.
	last api.Seg
}

func plainOf(n api.Net) *plain {
	j, _ := ipv4.New(n.Parts)
	return &plain{n: n, joiner: j}
}

func number(s string) int {
	n := 0
	for _, b := range []byte(s) {
		n = n<<8 | int(b)
	}
	return n
}

// big is n in so many bytes.
func big(n, size int) string {
	b := ""
	for i := size - 1; i >= 0; i-- {
		b += string([]byte{byte(n >> (8 * i))})
	}
	return b
}

// sum adds words as they are, and what is above 16 bits at once.
func sum(s string) int {
	n := 0
	if len(s)%2 == 1 {
		s += "\x00"
	}
	for i := 0; i < len(s); i += 2 {
		n += number(s[i : i+2])
		n = n%65536 + n/65536
	}
	return 65535 - n
}

func (c *plainConn) there() bool {
	return !c.went && c.State() != conn.Gone
}

// young is the lessons that still hold.
func (p *plain) young() []int {
	var l []int
	for i, x := range p.learnt {
		if p.now-x.at < p.n.Age {
			l = append(l, i)
		}
	}
	return l
}

func (p *plain) find(ip api.IP) (api.Mac, bool) {
	for _, i := range p.young() {
		if p.learnt[i].ip == ip {
			return p.learnt[i].mac, true
		}
	}
	return api.Mac{}, false
}

func (p *plain) learn(h host) {
	l := p.young()
	for _, i := range l {
		if p.learnt[i].ip == h.ip {
			p.learnt[i].mac, p.learnt[i].at = h.mac, p.now
			return
		}
	}
	if len(l) == 8 {
		oldest := slices.MinFunc(l, func(i, j int) int { return p.learnt[i].at - p.learnt[j].at })
		p.learnt = slices.Delete(p.learnt, oldest, oldest+1)
	}
	p.learnt = append(p.learnt, lesson{h, p.now})
}

// frame tells whether one is taken.
func (p *plain) frame(f string, draw uint32) {
	ok := len(f) >= 14 && len(f) <= 600 && (f[:6] == string(p.n.Mac[:]) || f[:6] == "\xff\xff\xff\xff\xff\xff")
	switch {
	case ok && f[12:14] == "\x08\x06":
		ok = p.arp(f[14:])
	case ok && f[12:14] == "\x08\x00":
		ok = p.packet(f, draw)
	default:
		ok = false
	}
	if !ok {
		p.drops++
	}
	p.say()
}

func (p *plain) arp(b string) bool {
	if len(b) < 28 || b[:6] != "\x00\x01\x08\x00\x06\x04" || b[6:8] != "\x00\x01" && b[6:8] != "\x00\x02" {
		return false
	}
	h := host{api.Mac([]byte(b[8:14])), api.IP([]byte(b[14:18]))}
	toMe := b[24:28] == string(p.n.IP[:])
	if _, ok := p.find(h.ip); ok || toMe {
		p.learn(h)
	}
	if toMe && b[7] == 1 {
		p.out = append(p.out, b[8:14]+string(p.n.Mac[:])+"\x08\x06"+b[:6]+"\x00\x02"+string(p.n.Mac[:])+b[24:28]+b[8:18])
	}
	return true
}

func (p *plain) packet(f string, draw uint32) bool {
	d, e := ipv4.Read(f[14:])
	if e != api.OK || d.To != p.n.IP || d.From == p.n.IP {
		return false
	}
	p.learn(host{api.Mac([]byte(f[6:12])), d.From})
	whole, ok := p.joiner.Put(d)
	switch {
	case !ok:
		return true
	case whole.Proto == 6:
		return p.segment(whole, draw)
	case whole.Proto != 1:
		if d.At == 0 && !d.More && f[:6] != "\xff\xff\xff\xff\xff\xff" {
			p.icmp(d.From, "\x03\x02", "\x00\x00\x00\x00"+f[14:min(len(f), 14+int(f[14]%16)*4+8)])
		}
		return false
	case len(whole.Data) < 8 || len(whole.Data) > 566 || sum(whole.Data) != 0 || whole.Data[:2] != "\x08\x00":
		return false
	}
	p.icmp(d.From, "\x00\x00", whole.Data[4:])
	return true
}

func (p *plain) segment(d api.Packet, draw uint32) bool {
	b := d.Data
	if len(b) < 20 || b[12]>>4 < 5 || int(b[12]>>4)*4 > len(b) || len(b) > 566 || sum(string(d.From[:])+string(d.To[:])+"\x00\x06"+big(len(b), 2)+b) != 0 {
		return false
	}
	mss, ok := 0, true
	for o := b[20 : int(b[12]>>4)*4]; o != "" && o[0] != 0 && ok; {
		switch {
		case o[0] == 1:
			o = o[1:]
		case len(o) < 2 || o[1] < 2 || int(o[1]) > len(o) || o[0] == 2 && o[1] != 4:
			ok = false
		default:
			if o[0] == 2 {
				mss = number(o[2:4])
			}
			o = o[o[1]:]
		}
	}
	if !ok {
		return false
	}
	s := api.Seg{From: number(b[:2]), To: number(b[2:4]), Seq: uint32(number(b[4:8])), Ack: uint32(number(b[8:12])), Flags: int(b[13] & 31), Window: number(b[14:16]), Data: b[4*int(b[12]>>4):]}
	if s.Flags&2 > 0 {
		s.MSS = mss
	}
	for _, c := range p.conns {
		if c.there() && c.ip == d.From && c.port == s.From && s.To == p.n.Port {
			c.In(s)
			return true
		}
	}
	if s.To == p.n.Port && s.Flags&^8 == 2 {
		return p.begin(s, d.From, draw)
	}
	r := api.Seg{From: s.To, To: s.From, Seq: s.Ack, Flags: 4}
	if s.Flags&16 == 0 {
		r = api.Seg{From: s.To, To: s.From, Ack: s.Seq + uint32(len(s.Data)+s.Flags&1+s.Flags/2&1), Flags: 20}
	}
	if s.Flags&4 == 0 {
		p.seg(d.From, r)
	}
	return true
}

func (p *plain) begin(s api.Seg, ip api.IP, draw uint32) bool {
	there, syns, lingers := 0, 0, []*plainConn{}
	for _, c := range p.conns {
		if !c.there() {
			continue
		}
		there++
		switch c.State() {
		case conn.SynIn:
			syns++
		case conn.Linger:
			lingers = append(lingers, c)
		}
	}
	if syns == 2 || there == 4 && len(lingers) == 0 {
		return false
	}
	if there == 4 {
		lingers[0].went = true
	}
	c, _ := conn.New(s, draw, p.n.Tcp)
	p.conns = append(p.conns, &plainConn{Conn: c, ip: ip, port: s.From})
	return true
}

// say lets all that connections sent go out.
func (p *plain) say() {
	for _, c := range p.conns {
		for _, s := range c.Out() {
			c.last = s
			p.seg(c.ip, s)
		}
	}
}

func (p *plain) tick() {
	p.now++
	p.joiner.Tick()
	for _, c := range p.conns {
		if c.there() {
			c.Tick()
		}
	}
	p.say()
}

// put sends a packet, or asks whom it would go to.
func (p *plain) put(ip api.IP, proto int, data string) {
	mac, ok := p.find(ip)
	head := "\x45\x00" + big(20+len(data), 2) + big(p.sent%65536, 2) + "\x00\x00\x40" + big(proto, 1)
	addresses := string(p.n.IP[:]) + string(ip[:])
	p.sent++
	if ok {
		p.out = append(p.out, string(mac[:])+string(p.n.Mac[:])+"\x08\x00"+head+big(sum(head+addresses), 2)+addresses+data)
		return
	}
	ask := "\x00\x01\x08\x00\x06\x04\x00\x01" + string(p.n.Mac[:]) + string(p.n.IP[:]) + "\x00\x00\x00\x00\x00\x00" + string(ip[:])
	p.out = append(p.out, "\xff\xff\xff\xff\xff\xff"+string(p.n.Mac[:])+"\x08\x06"+ask)
}

func (p *plain) icmp(ip api.IP, kind, rest string) {
	p.put(ip, 1, kind+big(sum(kind+rest), 2)+rest)
}

func (p *plain) seg(ip api.IP, s api.Seg) {
	options := ""
	if s.MSS > 0 {
		options = "\x02\x04" + big(s.MSS, 2)
	}
	ahead := big(s.From, 2) + big(s.To, 2) + big(int(s.Seq), 4) + big(int(s.Ack), 4) + big((20+len(options))*4, 1) + big(s.Flags, 1) + big(s.Window, 2)
	behind := "\x00\x00" + options + s.Data
	p.put(ip, 6, ahead+big(sum(string(p.n.IP[:])+string(ip[:])+"\x00\x06"+big(len(ahead+behind)+2, 2)+ahead+behind), 2)+behind)
}

// conn is the connection of that number; nil, if it is not there.
func (p *plain) conn(id int) *conn.Conn {
	if id < 1 || id > len(p.conns) || !p.conns[id-1].there() {
		return nil
	}
	return p.conns[id-1].Conn
}

// pair is a stack and a plain one, to which the same is done.
type pair struct {
	t *testing.T
	s *stack.Stack
	p *plain
}

func pairOf(t *testing.T, n api.Net) *pair {
	return &pair{t, labOf(t, n).Stack, plainOf(n)}
}

func (x *pair) frame(f string, draw uint32) {
	x.s.Frame(f, draw)
	x.p.frame(f, draw)
}

func (x *pair) tick() {
	x.s.Tick()
	x.p.tick()
}

func (x *pair) read(id, n int) {
	got, want := x.s.Read(id, n), x.p.conn(id).Read(n)
	if got != want {
		x.t.Fatalf("Read(%d, %d): %q, want %q", id, n, got, want)
	}
	x.p.say()
}

func (x *pair) write(id int, data string) {
	got, want := x.s.Write(id, data), x.p.conn(id).Write(data)
	if got != want {
		x.t.Fatalf("Write(%d, %d bytes): %d, want %d", id, len(data), got, want)
	}
	x.p.say()
}

func (x *pair) close(id int) {
	x.s.Close(id)
	x.p.conn(id).Close()
	x.p.say()
}

func (x *pair) abort(id int) {
	x.s.Abort(id)
	x.p.conn(id).Abort()
	x.p.say()
}

// stand asks how both stand.
func (x *pair) stand() {
	x.t.Helper()
	var ids []int
	there, syns := 0, 0
	for id := -1; id <= len(x.p.conns)+1; id++ {
		c := x.p.conn(id)
		if x.s.State(id) != c.State() || x.s.Ready(id) != c.Ready() || x.s.Room(id) != c.Room() || x.s.Eof(id) != c.Eof() {
			x.t.Fatalf("of %d: State %d, want %d; Ready %d, want %d; Room %d, want %d; Eof %v", id, x.s.State(id), c.State(), x.s.Ready(id), c.Ready(), x.s.Room(id), c.Room(), x.s.Eof(id))
		}
		switch x.s.State(id) {
		case conn.Gone:
		case conn.SynIn:
			there++
			syns++
		default:
			there++
			ids = append(ids, id)
		}
	}
	if there > api.MaxConns || syns > api.Backlog {
		x.t.Fatalf("%d are there, %d of them with but a Syn", there, syns)
	}
	if got := x.s.Conns(); !slices.Equal(got, ids) {
		x.t.Fatalf("Conns: %v, want %v", got, ids)
	}
	if n := x.s.Drops(); n != x.p.drops {
		x.t.Fatalf("Drops: %d, want %d", n, x.p.drops)
	}
}

func (x *pair) outs() {
	x.t.Helper()
	got := x.s.Out()
	if !slices.Equal(got, x.p.out) {
		x.t.Fatalf("Out:\n%s\nwant:\n%s", told(got), told(x.p.out))
	}
	x.p.out = nil
}

// chance does this and that, most of it with connections that are there.
type chance struct {
	*pair
	*lab
	r      *rand.Rand
	frames []string // what came, which may come again
	busy   int      // of 100 frames so many are of connections that are there
}

func chanceOf(t *testing.T, seed int64) *chance {
	r := rand.New(rand.NewSource(seed))
	n := usual()
	n.Age, n.Parts = 1+r.Intn(40), 1+r.Intn(10)
	n.Tcp = api.Tcp{First: 1 + r.Intn(6), Least: 1, Most: 6 + r.Intn(20), Tries: 1 + r.Intn(4), Linger: 1 + r.Intn(40)}
	p := pairOf(t, n)
	return &chance{pair: p, lab: &lab{t: t, Stack: p.s, n: n}, r: r, busy: 30 + r.Intn(60)}
}

func (x *chance) id() int {
	if x.r.Intn(10) == 0 {
		return x.r.Intn(9) - 4
	}
	return len(x.p.conns) - x.r.Intn(6)
}

func (x *chance) host() host {
	h := hostOf(x.r.Intn(4))
	if x.r.Intn(4) == 0 {
		h = hostOf(x.r.Intn(12))
	}
	if x.r.Intn(20) == 0 {
		h = otherMac(h)
	}
	return h
}

func (x *chance) of(l ...int) int {
	return l[x.r.Intn(len(l))]
}

// fitting is a segment that is nearly what a connection waits for.
func (x *chance) fitting() string {
	c := x.p.conns[max(0, len(x.p.conns)-1-x.r.Intn(5))]
	l := c.last
	s := api.Seg{From: c.port, To: x.n.Port, Seq: l.Ack, Ack: l.Seq + uint32(len(l.Data)+l.Flags&1+l.Flags/2&1), Flags: api.Ack}
	s.Window = x.of(0, 1, 100, 1000, 1000, 5000, 65535)
	switch x.r.Intn(12) {
	case 0:
		s.Flags = x.r.Intn(32)
	case 1:
		s.Flags |= api.Rst
	case 2, 3, 4:
		s.Flags |= api.Fin
	case 5:
		s.Seq += uint32(x.r.Intn(7) - 3)
	case 6:
		s.Ack += uint32(x.r.Intn(7) - 3)
	}
	if x.r.Intn(2) == 0 {
		s.Data = text(x.of(1, 5, 20, 300, 536))
	}
	for i := range 12 {
		if hostOf(i).ip == c.ip {
			return x.segFrom(hostOf(i), s)
		}
	}
	panic("nobody's")
}

func (x *chance) stray() string {
	s := api.Seg{From: 5 + x.r.Intn(3), To: x.of(10, 10, 10, 11), Seq: x.r.Uint32(), Ack: x.r.Uint32(), Flags: x.of(api.Syn, api.Syn, api.Syn, api.Syn|api.Psh, x.r.Intn(32)), Window: x.of(0, 1000, 65535)}
	if s.Flags&api.Syn > 0 {
		s.MSS = x.of(0, 1, 100, 536, 1460)
	}
	if x.r.Intn(5) == 0 {
		s.Data = text(x.of(1, 2, 9, 100))
	}
	return x.segFrom(x.host(), s)
}

func (x *chance) otherwise() string {
	h := x.host()
	switch x.r.Intn(6) {
	case 0:
		return x.icmpFrom(h, api.Icmp{Kind: x.of(8, 8, 0, 3), Code: x.of(0, 0, 0, 1), Rest: x.r.Uint32(), Data: text(x.r.Intn(60))})
	case 1:
		return x.packetFrom(h, api.Packet{Id: x.r.Intn(3), Proto: x.of(0, 2, 17, 255), Data: text(x.r.Intn(30))})
	case 2:
		to := api.IP{10, 0, 0, byte(2 + x.r.Intn(2))}
		return x.arpFrom(h, api.Mac{255, 255, 255, 255, 255, 255}, 1+x.r.Intn(2), to)
	case 3:
		return frameOf(x.n.Mac, h.mac, x.of(0x800, 0x806, 0x805, 0), text(x.r.Intn(60)))
	}
	p, _ := echoIn(x.of(60, 61, 100, 700), x.r.Intn(3))
	p.Proto = x.of(1, 1, 1, 17)
	l := cut(p, x.of(8, 16, 48, 48, 400))
	return x.packetFrom(h, l[x.r.Intn(len(l))])
}

// spoilt is a frame with something turned or cut.
func (x *chance) spoilt(f string) string {
	b := []byte(f)
	switch x.r.Intn(4) {
	case 0:
		return f[:x.r.Intn(len(f)+1)]
	case 1:
		copy(b, "\xff\xff\xff\xff\xff\xff")
	case 2:
		return f + text(x.r.Intn(20))
	default:
		b[x.r.Intn(len(b))] ^= 1 << x.r.Intn(8)
	}
	return string(b)
}

func (x *chance) next() string {
	f := ""
	switch n := x.r.Intn(100); {
	case len(x.p.conns) > 0 && n < x.busy:
		f = x.fitting()
	case len(x.frames) > 0 && n > 96:
		return x.frames[x.r.Intn(len(x.frames))]
	case n%2 == 0:
		f = x.stray()
	default:
		f = x.otherwise()
	}
	if x.r.Intn(30) == 0 {
		f = x.spoilt(f)
	}
	x.frames = append(x.frames, f)
	return f
}

func (x *chance) step() {
	switch x.r.Intn(20) {
	case 0, 1, 2:
		for range x.of(1, 1, 1, 2, 5, 20) {
			x.tick()
		}
	case 3, 4:
		x.read(x.id(), x.of(-1, 0, 1, 10, 5000))
	case 5, 6:
		x.write(x.id(), text(x.of(0, 1, 7, 100, 700, 3000)))
	case 7:
		x.close(x.id())
	case 8:
		if x.r.Intn(4) == 0 {
			x.abort(x.id())
		}
	default:
		x.frame(x.next(), x.r.Uint32())
	}
	x.stand()
	if x.r.Intn(3) > 0 {
		x.outs()
	}
}

func TestBesidePlainOneByChance(t *testing.T) {
	for seed := range int64(400) {
		x := chanceOf(t, seed)
		for range 300 {
			x.step()
		}
		x.outs()
	}
}

// All lists of a few small calls.
func TestBesidePlainOneInAllOrders(t *testing.T) {
	n := usual()
	n.Age, n.Parts = 4, 3
	n.Tcp = api.Tcp{First: 2, Least: 1, Most: 3, Tries: 1, Linger: 2}
	x := &lab{t: t, n: n}
	c, d := x.client(hostOf(1), 7, 1), x.client(hostOf(2), 7, 2)
	frames := []string{
		c.bringsSyn(), c.brings(api.Ack, 0, 0, "data"), c.brings(api.Ack|api.Fin, 4, 0, ""), c.brings(api.Ack, 5, 1, ""),
		d.bringsSyn(), d.brings(api.Ack|api.Fin, 0, 1, ""), x.client(hostOf(3), 7, 3).bringsSyn(), x.icmpFrom(hostOf(1), api.Icmp{Kind: 8}),
	}
	calls := []func(y *pair){
		func(y *pair) { y.close(1) }, func(y *pair) { y.close(2) }, func(y *pair) { y.abort(1) },
		func(y *pair) { y.write(1, "mine") }, func(y *pair) { y.read(1, 3) }, func(y *pair) { y.tick() }, func(y *pair) { y.tick(); y.tick() },
	}
	for _, f := range frames {
		calls = append(calls, func(y *pair) { y.frame(f, uint32(1<<20*(len(y.p.conns)+1))) })
	}
	var list func(l []int)
	list = func(l []int) {
		if len(l) == 4 {
			y := pairOf(t, n)
			for _, i := range l {
				calls[i](y)
				y.stand()
				y.outs()
			}
			return
		}
		for i := range calls {
			list(append(l, i))
		}
	}
	list(nil)
}
