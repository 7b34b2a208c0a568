package conn_test

import (
	"bytes"
	"math/rand"
	"testing"

	"stopcock/api"
	"stopcock/conn"
	"stopcock/tcpwire"
)

// The ways in which a segment goes wrong.
const (
	lose = iota
	twice
	late
	ways
)

// side is an end of a way, and what is known of it without asking it.
type side struct {
	*conn.Conn
	config conn.Config
	text   []byte // to be written
	wrote  int
	got    []byte
	ended  bool
	scale  int
	told   bool   // the SYN, and by it the scale
	edge   uint32 // the greatest that came
	knows  bool   // one did
	sent   uint32 // up to where was told, from ISS on
	unread bool   // it does not read
}

// post is a segment on its way.
type post struct {
	at, to int
	seg    api.Tcp
	ce     bool
}

// way joins two ends, of whose segments some go wrong.
type way struct {
	t     *testing.T
	r     *rand.Rand
	ends  [2]*side
	net   []post
	now   int
	bad   int   // so many go wrong
	kinds []int // in these ways
	often int   // one of so many
	marks bool
}

func newWay(t *testing.T, seed int64, change func(r *rand.Rand, c *conn.Config)) *way {
	w := &way{t: t, r: rand.New(rand.NewSource(seed)), often: 5, kinds: []int{lose, twice, late}}
	for i := range w.ends {
		c := config()
		c.SrcPort, c.DstPort, c.ISS = uint16(1+i), uint16(2-i), w.r.Uint32()
		c.MSL, c.Tries, c.Kind = 2000, 16, 1+w.r.Intn(4)
		change(w.r, &c)
		w.ends[i] = &side{config: c}
	}
	a, e := conn.Open(w.ends[0].config, 0)
	if e != api.OK {
		t.Fatalf("Open: %d", e)
	}
	w.ends[0].Conn = a
	return w
}

func (w *way) texts(sizes ...int) {
	for i, n := range sizes {
		w.ends[i].text = make([]byte, n)
		w.r.Read(w.ends[i].text)
	}
}

// arrive hands over what is there by now.
func (w *way) arrive() {
	var rest []post
	for _, p := range w.net {
		x := w.ends[p.to]
		switch {
		case p.at > w.now:
			rest = append(rest, p)
		case x.Conn == nil:
			x.Conn, _ = conn.Accept(x.config, p.seg, w.now)
			x.hear(w.ends[1-p.to], p.seg)
		default:
			x.hear(w.ends[1-p.to], p.seg)
			if e := x.Input(p.seg, p.ce, w.now); e != api.OK && e != api.ErrClosed {
				w.t.Fatalf("Input: %d", e)
			}
		}
	}
	w.net = rest
}

// hear reckons the greatest edge.
func (x *side) hear(peer *side, s api.Tcp) {
	scale := peer.scale
	if s.Flags&api.SYN != 0 {
		scale = 0
	}
	edge := s.Ack + uint32(s.Window)<<scale
	if s.Flags&api.ACK != 0 && (!x.knows || int32(edge-x.edge) > 0) {
		x.edge, x.knows = edge, true
	}
}

// send lets a segment go, or go wrong.
func (w *way) send(from int, s api.Tcp) {
	if s.Flags&api.SYN != 0 {
		w.ends[from].scale = s.Scale
	}
	p := post{at: w.now + 1, to: 1 - from, seg: s, ce: w.marks && w.r.Intn(3) == 0}
	if w.bad > 0 && w.r.Intn(w.often) == 0 {
		w.bad--
		switch w.kinds[w.r.Intn(len(w.kinds))] {
		case lose:
			return
		case twice:
			w.net = append(w.net, p)
		case late:
			p.at += w.r.Intn(201)
		}
	}
	w.net = append(w.net, p)
}

// work lets an end do all that it may in a tick.
func (w *way) work(i int) {
	x := w.ends[i]
	if x.Conn == nil {
		return
	}
	x.Tick(w.now)
	if x.wrote < len(x.text) {
		n, e := x.Write(x.text[x.wrote:])
		if e != api.OK && e != api.ErrWait {
			w.t.Fatalf("at %d end %d Write: %d; %+v, %+v", w.now, i, e, w.ends[0].Info(), w.ends[1].Info())
		}
		x.wrote += n
	}
	if x.wrote == len(x.text) {
		x.Shut()
	}
	before := x.Info()
	l, e := x.Out(w.now)
	if e != api.OK {
		w.t.Fatalf("Out: %d", e)
	}
	w.look(x, l, before)
	for _, s := range l {
		w.send(i, s)
	}
	if x.unread {
		return
	}
	b, e := x.Read(1 + w.r.Intn(3000))
	x.got = append(x.got, b...)
	if e != api.OK && e != api.ErrWait && e != api.ErrClosed {
		w.t.Fatalf("at %d Read: %d, %+v", w.now, e, x.Info())
	}
	x.ended = x.ended || e == api.ErrClosed
	peer := w.ends[1-i]
	if !bytes.HasPrefix(peer.text[:peer.wrote], x.got) || x.ended && len(x.got) != len(peer.text) {
		w.t.Fatalf("%d octets were read that are no beginning, or no end", len(x.got))
	}
}

// look holds what Out told against the edge and the window.
func (w *way) look(x *side, l []api.Tcp, before conn.Info) {
	i := x.Info()
	fresh, probe := 0, false
	for _, s := range l {
		end := s.Seq + uint32(len(s.Data)) - x.config.ISS - 1
		if len(s.Data) > i.Mss {
			w.t.Fatalf("%d octets in a segment; Mss %d", len(s.Data), i.Mss)
		}
		if len(s.Data) == 0 {
			continue
		}
		if int32(s.Seq+uint32(len(s.Data))-x.edge) > 0 {
			probe = true
			if len(s.Data) != 1 || s.Seq != before.Una {
				w.t.Fatalf("octets beyond the edge: %+v", s)
			}
		}
		if end > x.sent {
			fresh += int(end - x.sent)
			x.sent = end
		}
	}
	if fresh > 0 && !probe && i.Pipe > i.Window {
		w.t.Fatalf("%d octets on their way; the window is %d", i.Pipe, i.Window)
	}
	unsent := x.wrote - int(x.sent)
	if i.State >= 3 && unsent > 0 && int32(i.Edge-i.Nxt) > 0 && i.Pipe < i.Window && !i.Mending {
		w.t.Fatalf("%d octets were held back: %+v", unsent, i)
	}
	if _, ok := x.Next(); i.Asleep == ok {
		w.t.Fatalf("behind Out a timer: %v, but %+v", ok, i)
	}
	if i.Asleep && before.Asleep && len(l) > 0 {
		w.t.Fatalf("asleep, but it told %+v", l)
	}
}

// run goes on till all is read and both ends are at rest; true, if that came.
func (w *way) run(ticks int) bool {
	for ; w.now < ticks; w.now++ {
		w.arrive()
		w.work(0)
		w.work(1)
		if w.isOver() {
			return true
		}
	}
	return false
}

func (w *way) isOver() bool {
	for i, x := range w.ends {
		if x.Conn == nil || !x.ended || !bytes.Equal(x.got, w.ends[1-i].text) {
			return false
		}
		if s := x.Info().State; s != 0 && s != 9 {
			return false
		}
	}
	return true
}

func (w *way) fail(seed int64) {
	w.t.Helper()
	w.t.Fatalf("seed %d: not all is read by %d: %d of %d, %d of %d; %+v, %+v", seed, w.now, len(w.ends[0].got), len(w.ends[1].text),
		len(w.ends[1].got), len(w.ends[0].text), w.ends[0].Info(), w.ends[1].Info())
}

func anyConfig(r *rand.Rand, c *conn.Config) {
	c.MSS, c.Send, c.Recv = 1+r.Intn(1500), 1+r.Intn(3000), 1+r.Intn(3000)
	c.Script = []int{r.Intn(5000), r.Intn(100), r.Intn(300), 0, r.Intn(5000), 0, 1 << 31, 0, -5, -5, r.Intn(2000), 0}
}

func TestBeginningP25_6(t *testing.T) {
	for seed := range int64(1500) {
		w := newWay(t, seed, anyConfig)
		w.texts(w.r.Intn(2001), w.r.Intn(2001))
		w.bad, w.often, w.marks = 1<<30, 1+w.r.Intn(6), true
		w.run(3000) // whatever happens, work looks at what is read
	}
}

func TestComesP25_7(t *testing.T) {
	for seed := range int64(1500) {
		w := newWay(t, seed, anyConfig)
		w.texts(w.r.Intn(2001), w.r.Intn(2001))
		w.bad, w.often, w.marks = 12, 1+w.r.Intn(8), w.r.Intn(2) == 0
		if !w.run(60000) {
			w.fail(seed)
		}
	}
}

func TestComesSoonP25_7(t *testing.T) {
	for seed := range int64(600) {
		for _, x := range []struct{ size, lost, ticks int }{{800, 8, 9000}, {600, 5, 5000}} {
			w := newWay(t, seed, func(r *rand.Rand, c *conn.Config) {
				c.MSS = []int{10, 50, 100, 1000}[r.Intn(4)]
				c.Send, c.Recv = []int{50, 1000, 65536}[r.Intn(3)], []int{50, 1000, 65536}[r.Intn(3)]
			})
			w.texts(x.size, 0)
			w.bad, w.kinds, w.often = x.lost, []int{lose}, 1+w.r.Intn(5)
			if !w.run(x.ticks) {
				w.fail(seed)
			}
		}
	}
}

// TestUnread: an end that does not read stops the other one, and no more than
// that: what it writes itself comes.
func TestUnread(t *testing.T) {
	for seed := range int64(200) {
		w := newWay(t, seed, anyConfig)
		w.texts(5000, 2000)
		w.ends[1].unread = true
		w.bad, w.often = 5, 10
		w.run(40000)
		if a, b := w.ends[0], w.ends[1]; len(a.got) != 2000 || a.Info().Err != api.OK || b.Info().Err != api.OK || b.Info().Ready != min(5000, b.config.Recv) {
			t.Fatalf("seed %d: %d octets; %+v, %+v", seed, len(a.got), a.Info(), b.Info())
		}
		w.ends[1].unread = false
		if !w.run(100000) {
			w.fail(seed)
		}
	}
}

// TestLazy: ends that read now and then, so that windows close on both sides.
func TestLazy(t *testing.T) {
	for seed := range int64(1000) {
		w := newWay(t, seed, func(r *rand.Rand, c *conn.Config) {
			anyConfig(r, c)
			c.Recv = 20 + r.Intn(400)
		})
		w.texts(w.r.Intn(2001), w.r.Intn(2001))
		w.bad, w.often = 12+w.r.Intn(20), 1+w.r.Intn(20)
		lazy, over := 1+w.r.Intn(60), false
		for ; w.now < 60000 && !over; w.now++ {
			for _, x := range w.ends {
				x.unread = w.r.Intn(lazy) > 0
			}
			w.arrive()
			w.work(0)
			w.work(1)
			over = w.isOver()
		}
		if !over {
			w.fail(seed)
		}
	}
}

// TestAnySegmentP25_8: whatever comes, and is called, the state is one of the ten.
func TestAnySegmentP25_8(t *testing.T) {
	for seed := range int64(3000) {
		r := rand.New(rand.NewSource(seed))
		c := config()
		c.Kind, c.MSS, c.Send, c.Recv = 1+r.Intn(4), 1+r.Intn(50), 1+r.Intn(200), 1+r.Intn(200)
		if r.Intn(3) == 0 {
			c.Recv = 1 + r.Intn(1<<20)
		}
		var x *conn.Conn
		if r.Intn(2) == 0 {
			x, _ = conn.Open(c, 0)
		} else {
			s := anySegment(r, conn.Info{}, 0)
			s.Flags = api.SYN | byte(r.Intn(256))&^(api.ACK|api.RST|api.FIN)
			x, _ = conn.Accept(c, s, 0)
		}
		now := 0
		for range 200 {
			now += r.Intn(20) * r.Intn(2)
			step(t, r, x, now)
			i := x.Info()
			if i.State < 0 || i.State > 9 || int32(i.Nxt-i.Una) < 0 || i.Pipe < 0 || i.Ready < 0 || i.Free < 0 || i.Window < i.Mss {
				t.Fatalf("seed %d: %+v", seed, i)
			}
		}
	}
}

func step(t *testing.T, r *rand.Rand, x *conn.Conn, now int) {
	switch r.Intn(12) {
	case 0:
		x.Write(make([]byte, r.Intn(100)))
	case 1:
		x.Read(r.Intn(100))
	case 2:
		x.Tick(now)
	case 3:
		if r.Intn(20) == 0 {
			x.Shut()
		}
	case 4:
		if r.Intn(100) == 0 {
			x.Abort()
		}
	case 5:
		x.Grow(r.Intn(1 << 12))
	case 6, 7, 8:
		l, e := x.Out(now)
		if e != api.OK {
			t.Fatalf("Out: %d", e)
		}
		for _, s := range l {
			if e := tcpwire.Check(s); e != api.OK {
				t.Fatalf("Out tells what may not be: %+v: %d", s, e)
			}
		}
	default:
		x.Input(anySegment(r, x.Info(), now), r.Intn(2) == 0, now)
	}
}

// anySegment is any segment, mostly one that may count.
func anySegment(r *rand.Rand, i conn.Info, now int) api.Tcp {
	near := func(n uint32) uint32 {
		switch r.Intn(8) {
		case 0:
			return r.Uint32()
		case 1:
			return n + uint32(r.Intn(300))
		case 2:
			return n - uint32(r.Intn(300))
		}
		return n
	}
	s := api.Tcp{Seq: near(i.RcvNxt), Ack: near(i.Nxt), Flags: api.ACK, Window: uint16(r.Intn(300)), Data: make([]byte, r.Intn(2)*r.Intn(60))}
	if r.Intn(2) == 0 {
		s.Ack = near(i.Una)
	}
	if r.Intn(3) == 0 {
		s.Flags |= []byte{api.FIN, api.SYN, api.RST, api.ECE, api.CWR, api.URG}[r.Intn(6)]
	}
	if i.State == 1 {
		s.Flags |= api.SYN
	}
	if r.Intn(20) == 0 {
		s.Flags = byte(r.Intn(256))
	}
	if r.Intn(40) == 0 {
		s.Data = make([]byte, 100000)
	}
	for range r.Intn(7) {
		left := i.Una + uint32(r.Intn(100))
		s.Sacks = append(s.Sacks, api.Block{Left: left, Right: near(left + uint32(r.Intn(50)))})
	}
	s.MSS = []int{0, 1, 30, 65535, -5, 1 << 40}[r.Intn(6)]
	s.HasScale, s.Scale = r.Intn(2) == 0, []int{0, 3, 14, 255, -1, 1 << 50}[r.Intn(6)]
	s.SackOK = r.Intn(2) == 0
	s.HasTS, s.TSVal, s.TSEcr = r.Intn(2) == 0, uint32(now), near(uint32(now))
	return s
}
