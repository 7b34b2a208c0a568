package shard_test

import (
	"bytes"
	"math"
	"math/rand"
	"reflect"
	"testing"

	"stopcock/api"
	"stopcock/conn"
	"stopcock/rtt"
	"stopcock/shard"
	"stopcock/sock"
	"stopcock/toeplitz"
)

const (
	maxTick = 1 << 40
	own     = 10<<24 + 1 // addresses
	peer    = 10<<24 + 2
)

// key is some octets without a rule to be seen.
func key() []byte {
	b := make([]byte, 40)
	rand.New(rand.NewSource(1)).Read(b)
	return b
}

func table(shards int) []int {
	l := make([]int, 128)
	for i := range l {
		l[i] = i % shards
	}
	return l
}

func config(shards int) shard.Config {
	return shard.Config{Shards: shards, Key: key(), Table: table(shards), Stack: sock.Config{IP: own, Most: 4,
		Conn: conn.Config{MSS: 100, Send: 1000, Recv: 1000, Kind: 1, Rtt: rtt.Params{Init: 50, Min: 10, Max: 300, Grain: 1}, MSL: 500, Tries: 4}}}
}

func made(t *testing.T, c shard.Config) *shard.Set {
	t.Helper()
	s, e := shard.New(c)
	if s == nil || e != api.OK {
		t.Fatalf("New: %v, %d", s, e)
	}
	return s
}

func answers(t *testing.T, want int, errno api.Errno) func(int, api.Errno) {
	return func(got int, e api.Errno) {
		t.Helper()
		if got != want || e != errno {
			t.Fatalf("%d, %d; want %d, %d", got, e, want, errno)
		}
	}
}

func same(t *testing.T, what string, got, want any) {
	t.Helper()
	if !reflect.DeepEqual(got, want) {
		t.Errorf("%s: %+v; want %+v", what, got, want)
	}
}

// ownerOf works an owner out without a Set.
func ownerOf(c shard.Config, peer uint32, peerPort, port uint16) int {
	hash, _ := toeplitz.Hash(c.Key, toeplitz.Tuple(peer, c.Stack.IP, peerPort, port))
	return c.Table[hash%128]
}

// portTo is a port of the peer from which a connection to a port belongs to a
// shard.
func portTo(t *testing.T, c shard.Config, port uint16, want int) uint16 {
	t.Helper()
	for from := range uint16(60000) {
		if ownerOf(c, peer, from, port) == want {
			return from
		}
	}
	t.Fatal("no such port")
	return 0
}

func run(t *testing.T, s *shard.Set, which, now int) []shard.Packet {
	t.Helper()
	l, e := s.Run(which, now)
	if e != api.OK {
		t.Fatalf("Run(%d, %d): %d", which, now, e)
	}
	return l
}

// shake lets a peer have a connection from a port, and gives its shard.
func shake(t *testing.T, s *shard.Set, from, port uint16, now int) int {
	t.Helper()
	which, e := s.Mail(peer, api.Tcp{SrcPort: from, DstPort: port, Seq: 1000, Flags: api.SYN, Window: 5000}, false)
	if e != api.OK {
		t.Fatalf("Mail: %d", e)
	}
	l := run(t, s, which, now)
	p := l[len(l)-1]
	if p.Seg.Flags != api.SYN|api.ACK || p.Shard != which || p.Peer != peer {
		t.Fatalf("Run: %+v", l)
	}
	s.Mail(peer, api.Tcp{SrcPort: from, DstPort: port, Seq: 1001, Ack: p.Seg.Seq + 1, Flags: api.ACK, Window: 5000}, false)
	run(t, s, which, now)
	return which
}

func TestExample(t *testing.T) {
	s := made(t, config(4))
	answers(t, 3, api.OK)(s.Connect(3, peer, 80, 40000, 0))
	l := run(t, s, 3, 0)
	if len(l) != 1 || l[0].Seg.SrcPort < 40000 || s.Owner(peer, 80, l[0].Seg.SrcPort) != 3 {
		t.Errorf("Run: %+v", l)
	}
}

func TestCheckP27_1(t *testing.T) {
	for _, x := range []struct {
		set  func(c *shard.Config)
		want api.Errno
	}{
		{func(c *shard.Config) {}, api.OK},
		{func(c *shard.Config) { c.Shards = 0; c.Key = nil }, api.ErrConfig},
		{func(c *shard.Config) { c.Shards = -1 }, api.ErrConfig},
		{func(c *shard.Config) { c.Shards = 17 }, api.ErrConfig},
		{func(c *shard.Config) { c.Shards = 16 }, api.OK},
		{func(c *shard.Config) { c.Key = c.Key[1:]; c.Table[0] = 16 }, api.ErrCount},
		{func(c *shard.Config) { c.Table = nil }, api.ErrCount},
		{func(c *shard.Config) { c.Table = c.Table[1:] }, api.ErrCount},
		{func(c *shard.Config) { c.Table[5] = -1 }, api.ErrRange},
		{func(c *shard.Config) { c.Table[127] = 16 }, api.ErrRange},
		{func(c *shard.Config) { c.Table[127] = 4 }, api.ErrRange},
		{func(c *shard.Config) { c.Table[127] = 4; c.Stack.Most = 0 }, api.ErrRange},
		{func(c *shard.Config) { c.Stack.Most = 0 }, api.ErrConfig},
		{func(c *shard.Config) { c.Stack.Conn.MSS = 0 }, api.ErrConfig},
		{func(c *shard.Config) { *c = shard.Config{} }, api.ErrConfig},
	} {
		c := config(4)
		x.set(&c)
		if e := shard.Check(c); e != x.want {
			t.Errorf("Check(%+v): %d; want %d", c, e, x.want)
		}
		if s, e := shard.New(c); e != x.want || (s == nil) != (e != api.OK) {
			t.Errorf("New(%+v): %d; want %d", c, e, x.want)
		}
	}
}

func TestNotMade(t *testing.T) {
	for _, s := range []*shard.Set{nil, {}} {
		want := answers(t, 0, api.ErrMade)
		want(s.Listen(1, 0))
		want(s.Accept(-1))
		want(s.Connect(-1, 1, 1, 1, -1))
		want(s.Write(-1, nil))
		want(s.Mail(1, api.Tcp{}, true))
		b, e1 := s.Read(-1, -1)
		l, e2 := s.Run(-1, -1)
		i, e3 := s.Info(-1)
		for n, e := range []api.Errno{e1, e2, e3, s.Shut(0), s.Close(0)} {
			if e != api.ErrMade {
				t.Errorf("call %d: %d", n, e)
			}
		}
		if b != nil || l != nil || i != (conn.Info{}) || s.Owner(1, 1, 1) != 0 || s.Waiting(0) != 0 {
			t.Error("a set that no New made tells something")
		}
	}
}

func TestOwnerP27_1(t *testing.T) {
	c := config(7)
	s := made(t, c)
	r := rand.New(rand.NewSource(2))
	for range 1000 {
		ip, a, b := r.Uint32(), uint16(r.Uint32()), uint16(r.Uint32())
		same(t, "Owner", s.Owner(ip, a, b), ownerOf(c, ip, a, b))
		which, e := s.Mail(ip, api.Tcp{SrcPort: a, DstPort: b, Flags: api.RST}, false)
		same(t, "Mail", []any{which, e}, []any{ownerOf(c, ip, a, b), api.OK})
	}
}

func TestListenP27_2(t *testing.T) {
	c := config(4)
	s := made(t, c)
	answers(t, 0, api.ErrRange)(s.Listen(80, 0))
	answers(t, 0, api.OK)(s.Listen(80, 2))
	answers(t, 0, api.ErrInUse)(s.Listen(80, 2))
	answers(t, 16, api.OK)(s.Listen(81, 2))
	// A shard that has no room for one: those that were made are gone again.
	for i := range 2 {
		answers(t, 16*(2+i)+2, api.OK)(s.Connect(2, peer, uint16(80+i), 0, 0))
	}
	answers(t, 0, api.ErrFull)(s.Listen(82, 2))
	for which := range 2 {
		s.Mail(peer, api.Tcp{SrcPort: portTo(t, c, 82, which), DstPort: 82, Flags: api.SYN}, false)
		if l := run(t, s, which, 0); len(l) != 1 || l[0].Seg.Flags != api.RST|api.ACK {
			t.Errorf("Run(%d): %+v", which, l)
		}
	}
	// There is one replica on each shard.
	for which := range 4 {
		same(t, "shard", shake(t, s, portTo(t, c, 81, which), 81, 0), which)
	}
	// Close closes all of them, whichever of them it is told.
	for id, port := range map[int]uint16{0: 80, 16 + 3: 81} {
		if e := s.Close(id); e != api.OK {
			t.Errorf("Close(%d): %d", id, e)
		}
		if e := s.Close(id); e != api.ErrSock {
			t.Errorf("Close(%d): %d", id, e)
		}
		answers(t, 0, api.ErrSock)(s.Accept(id / 16 * 16))
		for which := range 4 {
			s.Mail(peer, api.Tcp{SrcPort: portTo(t, c, port, which), DstPort: port, Flags: api.SYN}, false)
			for _, p := range run(t, s, which, 0) {
				if p.Seg.Flags&api.RST == 0 && p.Seg.SrcPort == port {
					t.Errorf("Run(%d): %+v", which, p)
				}
			}
		}
	}
}

func TestAcceptP27_2(t *testing.T) {
	c := config(4)
	s := made(t, c)
	answers(t, 0, api.OK)(s.Listen(80, 2))
	answers(t, 0, api.ErrWait)(s.Accept(0))
	for _, id := range []int{1, 2, 3, 16, -16, -1, math.MaxInt, math.MinInt} {
		answers(t, 0, api.ErrSock)(s.Accept(id))
	}
	for _, which := range []int{3, 1, 2} {
		shake(t, s, portTo(t, c, 80, which), 80, 0)
	}
	answers(t, 16+1, api.OK)(s.Accept(0)) // from shard 0 on
	answers(t, 16+2, api.OK)(s.Accept(0))
	answers(t, 16+3, api.OK)(s.Accept(0))
	answers(t, 0, api.ErrWait)(s.Accept(0))
	answers(t, 0, api.ErrSock)(s.Accept(16 + 1)) // a connection's
	// A stack that has no room tells it.
	for i := range 3 {
		s.Connect(0, peer, uint16(90+i), 0, 0)
	}
	shake(t, s, portTo(t, c, 80, 0), 80, 0)
	answers(t, 0, api.ErrFull)(s.Accept(0))
}

func TestConnectP27_2(t *testing.T) {
	c := config(4)
	for i := range c.Table { // none comes to shard 2
		c.Table[i] = []int{0, 1, 3}[i%3]
	}
	s := made(t, c)
	for _, which := range []int{-1, 4, 16, math.MaxInt, math.MinInt} {
		answers(t, 0, api.ErrRange)(s.Connect(which, peer, 80, 0, -1))
	}
	answers(t, 0, api.ErrNone)(s.Connect(2, peer, 80, 0, -1))
	for id, from := range []uint16{0, 32767, 32768, 65535} {
		want, _ := toeplitz.Port(c.Key, c.Table, own, peer, uint16(80+id), 3, max(from, 32768))
		answers(t, id*16+3, api.OK)(s.Connect(3, peer, uint16(80+id), from, id))
		l := run(t, s, 3, id)
		if len(l) != 1 || l[0].Seg.SrcPort != want || l[0].Seg.DstPort != uint16(80+id) || l[0].Shard != 3 || l[0].Peer != peer {
			t.Errorf("Run: %+v; want the port %d", l, want)
		}
	}
	answers(t, 0, api.ErrOrder)(s.Connect(3, peer, 80, 0, 2))
	answers(t, 0, api.ErrInUse)(s.Connect(3, peer, 80, 0, 3))
	answers(t, 0, api.ErrFull)(s.Connect(3, peer, 99, 0, 3))
	answers(t, 0, api.OK)(s.Connect(0, peer, 80, 0, 0)) // another shard has a time of its own
}

func TestCallsP27_2(t *testing.T) {
	c := config(4)
	s := made(t, c)
	answers(t, 0, api.OK)(s.Listen(80, 2))
	shake(t, s, portTo(t, c, 80, 2), 80, 0)
	answers(t, 18, api.OK)(s.Accept(0))
	for id, want := range map[int]api.Errno{0: api.ErrState, 3: api.ErrState, 17: api.ErrSock, 4: api.ErrSock, 15: api.ErrSock, -1: api.ErrSock, -14: api.ErrSock, math.MaxInt: api.ErrSock, math.MinInt: api.ErrSock} {
		n, e1 := s.Write(id, nil)
		b, e2 := s.Read(id, 1)
		i, e3 := s.Info(id)
		for k, e := range []api.Errno{e1, e2, e3, s.Shut(id)} {
			if e != want {
				t.Errorf("call %d of the number %d: %d; want %d", k, id, e, want)
			}
		}
		if n != 0 || b != nil || i != (conn.Info{}) {
			t.Error("beside an error something is told")
		}
		if want == api.ErrSock {
			same(t, "Close", s.Close(id), want)
		}
	}
	answers(t, 5, api.OK)(s.Write(18, []byte("hello")))
	l := run(t, s, 2, 0)
	if len(l) != 1 || string(l[0].Seg.Data) != "hello" {
		t.Errorf("Run: %+v", l)
	}
	p := l[0].Seg
	s.Mail(peer, api.Tcp{SrcPort: p.DstPort, DstPort: 80, Seq: 1001, Ack: p.Seq + 5, Flags: api.ACK, Data: []byte("world")}, false)
	run(t, s, 2, 0)
	b, e := s.Read(18, 9)
	same(t, "Read", []any{string(b), e}, []any{"world", api.OK})
	i, e := s.Info(18)
	same(t, "Info", []any{i.State, i.Una, e}, []any{3, p.Seq + 5, api.OK})
	same(t, "Shut", s.Shut(18), api.OK)
	same(t, "Shut", s.Shut(18), api.ErrClosed)
	same(t, "Close", s.Close(18), api.OK)
	same(t, "Close", s.Close(18), api.ErrSock)
}

func TestMailP27_3(t *testing.T) {
	c := config(4)
	s := made(t, c)
	seg := api.Tcp{SrcPort: portTo(t, c, 80, 3), DstPort: 80, Flags: api.ACK, Ack: 7}
	for i := range 4096 {
		same(t, "Waiting", s.Waiting(3), i)
		answers(t, 3, api.OK)(s.Mail(peer, seg, false))
	}
	answers(t, 3, api.ErrFull)(s.Mail(peer, seg, false))
	same(t, "Waiting", s.Waiting(3), 4096)
	for _, which := range []int{0, 1, 2, 4, -1, math.MaxInt} {
		same(t, "Waiting", s.Waiting(which), 0)
	}
	// It goes in when its shard is run, in order.
	for _, which := range []int{-1, 4, math.MaxInt} {
		if l, e := s.Run(which, -1); l != nil || e != api.ErrRange {
			t.Errorf("Run(%d): %v, %d", which, l, e)
		}
	}
	same(t, "Run", len(run(t, s, 0, 50)), 0)
	for _, now := range []int{-1, maxTick + 1, math.MinInt} {
		if l, e := s.Run(3, now); l != nil || e != api.ErrOrder {
			t.Errorf("Run at %d: %v, %d", now, l, e)
		}
	}
	same(t, "Waiting", s.Waiting(3), 4096)
	l := run(t, s, 3, 5) // each shard has a time of its own
	same(t, "Run", len(l), 4096)
	same(t, "Run", l[4095], shard.Packet{Shard: 3, Peer: peer, Seg: api.Tcp{SrcPort: 80, DstPort: seg.SrcPort, Seq: 7, Flags: api.RST}})
	same(t, "Waiting", s.Waiting(3), 0)
	if _, e := s.Run(3, 4); e != api.ErrOrder {
		t.Error("Run:", e)
	}
	answers(t, 3, api.OK)(s.Connect(3, peer, 80, 0, 9))
	if _, e := s.Run(3, 8); e != api.ErrOrder {
		t.Error("Run:", e)
	}
	// Time goes on in it.
	if l := run(t, s, 3, 9); len(l) != 1 || l[0].Rate != 0 {
		t.Errorf("Run: %+v", l)
	}
	same(t, "Run", len(run(t, s, 3, 58)), 0)
	same(t, "Run", len(run(t, s, 3, 59)), 1)
	run(t, s, 3, maxTick)
}

func TestMemoryP27_6(t *testing.T) {
	c := config(1)
	c.Stack.Draws = []uint32{7}
	c.Stack.Conn.Kind, c.Stack.Conn.Script = 4, []int{500, 7}
	s := made(t, c)
	c.Stack.Draws[0], c.Stack.Conn.Script[1] = 9, 9
	before := s.Owner(peer, 1, 2)
	for i := range c.Key {
		c.Key[i] = 0
	}
	for i := range c.Table {
		c.Table[i] = 5
	}
	same(t, "Owner", s.Owner(peer, 1, 2), before)
	answers(t, 0, api.OK)(s.Listen(80, 2))
	shake(t, s, 5, 80, 0)
	answers(t, 16, api.OK)(s.Accept(0))
	seg := api.Tcp{SrcPort: 5, DstPort: 80, Seq: 1001, Ack: 8, Flags: api.ACK, Data: []byte("abc"), Sacks: []api.Block{{Left: 1, Right: 2}}}
	s.Mail(peer, seg, false)
	seg.Data[0] = 'z'
	run(t, s, 0, 0)
	b, _ := s.Read(16, 9)
	same(t, "Read", string(b), "abc")
	text := []byte("words")
	s.Write(16, text)
	text[0] = 'x'
	l := run(t, s, 0, 0)
	same(t, "Run", []any{string(l[0].Seg.Data), l[0].Seg.Seq, l[0].Rate}, []any{"words", uint32(8), 7})
	l[0].Seg.Data[0] = 'y'
	same(t, "Run", string(run(t, s, 0, 10)[0].Seg.Data), "words")
}

// TestBeginningP27_5: two sets, of each of which one shard is run at each tick,
// and what that sends comes a tick later; each connection stays in its shard.
func TestBeginningP27_5(t *testing.T) {
	for seed := range int64(150) {
		r := rand.New(rand.NewSource(seed))
		p := newPair(t, r, 1+r.Intn(16))
		for now := range 1500 {
			p.tick(now)
			if p.isOver() {
				break
			}
		}
		if !p.isOver() {
			t.Fatalf("seed %d: not all is read", seed)
		}
	}
}

// post is a packet on its way.
type post struct {
	at, to int
	seg    api.Tcp
}

type pair struct {
	t      *testing.T
	r      *rand.Rand
	shards int
	ends   [2]*shard.Set
	net    []post
	socks  [2][]int
	texts  [2][][]byte
	wrote  [2][]int
	got    [2][][]byte
	which  []int // of the second end's sockets: which of the first one's it is joined to
	homes  [2]map[[2]uint16]int
}

const links = 6

func newPair(t *testing.T, r *rand.Rand, shards int) *pair {
	p := &pair{t: t, r: r, shards: shards}
	for i := range p.ends {
		c := config(shards)
		c.Stack.IP = []uint32{own, peer}[i]
		c.Stack.Most, c.Stack.Conn.Tries, c.Stack.Conn.Kind = 16, 16, 1+r.Intn(3)
		c.Stack.Conn.MSS = []int{100, 500, 1000}[r.Intn(3)]
		r.Shuffle(len(c.Table), func(i, j int) { c.Table[i], c.Table[j] = c.Table[j], c.Table[i] })
		p.ends[i] = made(t, c)
		p.homes[i] = map[[2]uint16]int{}
		p.wrote[i], p.got[i] = make([]int, links), make([][]byte, links)
		for k := range links {
			b := make([]byte, 801)
			r.Read(b)
			b[0] = byte(k)
			p.texts[i] = append(p.texts[i], b)
		}
	}
	answers(t, 0, api.OK)(p.ends[1].Listen(80, links))
	for k := range links {
		id, e := p.ends[0].Connect(k%shards, peer, 80, uint16(40000+1000*k), 0)
		if e != api.OK {
			t.Fatalf("Connect: %d", e)
		}
		p.socks[0] = append(p.socks[0], id)
	}
	return p
}

func (p *pair) tick(now int) {
	var rest []post
	for _, x := range p.net {
		if x.at > now {
			rest = append(rest, x)
		} else if _, e := p.ends[x.to].Mail([]uint32{peer, own}[x.to], x.seg, false); e != api.OK {
			p.t.Fatalf("Mail: %d", e)
		}
	}
	p.net = rest
	for i, s := range p.ends {
		which := now % p.shards
		if now < 400 {
			which = p.r.Intn(p.shards)
		}
		for _, x := range run(p.t, s, which, now) {
			p.look(i, which, x)
			p.net = append(p.net, post{now + 1, 1 - i, x.Seg})
		}
		for k, id := range p.socks[i] {
			p.serve(i, k, id)
		}
	}
	if id, e := p.ends[1].Accept(0); e == api.OK {
		p.socks[1] = append(p.socks[1], id)
		p.which = append(p.which, -1)
	}
}

// look sees that a connection stays where it began: at the owner of its answers.
func (p *pair) look(i, which int, x shard.Packet) {
	ports := [2]uint16{x.Seg.SrcPort, x.Seg.DstPort}
	home, known := p.homes[i][ports]
	if x.Shard != which || known && home != which || p.ends[i].Owner(x.Peer, x.Seg.DstPort, x.Seg.SrcPort) != which {
		p.t.Fatalf("%+v comes of the shard %d", x, which)
	}
	p.homes[i][ports] = which
}

func (p *pair) serve(i, k, id int) {
	s := p.ends[i]
	b, e := s.Read(id, 1000)
	if e != api.OK && e != api.ErrWait && e != api.ErrClosed {
		p.t.Fatalf("Read: %d", e)
	}
	if i == 1 {
		if p.which[k] < 0 && len(b) > 0 {
			p.which[k] = int(b[0])
		}
		if k = p.which[k]; k < 0 {
			return
		}
	}
	p.got[i][k] = append(p.got[i][k], b...)
	if !bytes.HasPrefix(p.texts[1-i][k], p.got[i][k]) {
		p.t.Fatal("what was read is no beginning of what was written")
	}
	if p.wrote[i][k] < len(p.texts[i][k]) {
		n, _ := s.Write(id, p.texts[i][k][p.wrote[i][k]:])
		p.wrote[i][k] += n
	}
}

func (p *pair) isOver() bool {
	for i := range p.ends {
		for k, b := range p.got[i] {
			if !bytes.Equal(b, p.texts[1-i][k]) {
				return false
			}
		}
	}
	return true
}
