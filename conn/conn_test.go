package conn_test

import (
	"bytes"
	"math"
	"reflect"
	"testing"

	"stopcock/api"
	"stopcock/conn"
	"stopcock/rtt"
)

const (
	maxTick   = 1 << 40
	maxBuffer = 1 << 20
	iss       = 5000  // of the end that is tested
	irs       = 70000 // of the peer that is made by hand
)

var waits = rtt.Params{Init: 50, Min: 10, Max: 300, Grain: 1}

// config is of an end whose window is always 5000.
func config() conn.Config {
	return conn.Config{SrcPort: 1000, DstPort: 2000, ISS: iss, MSS: 100, Send: 10000, Recv: 1000, Kind: 4,
		Script: []int{5000, 0}, Rtt: waits, MSL: 500, Tries: 4}
}

func changed(f func(c *conn.Config)) conn.Config {
	c := config()
	f(&c)
	return c
}

// hand is an end, and a peer that is made by hand.
type hand struct {
	*conn.Conn
	t   *testing.T
	now int
	seq uint32 // of the peer
	win uint16
}

// syn is what a peer sends that has no options but MSS and SackOK.
func syn() api.Tcp {
	return api.Tcp{SrcPort: 2000, DstPort: 1000, Seq: irs, Flags: api.SYN, Window: 60000, MSS: 100, SackOK: true}
}

// open makes an end that is established, to a peer without timestamps.
func open(t *testing.T, c conn.Config) *hand {
	t.Helper()
	return openBy(t, c, syn())
}

func openBy(t *testing.T, c conn.Config, s api.Tcp) *hand {
	t.Helper()
	x, e := conn.Accept(c, s, 0)
	if e != api.OK || x == nil {
		t.Fatalf("Accept: %d", e)
	}
	h := &hand{Conn: x, t: t, seq: irs + 1, win: 60000}
	if l := h.out(); len(l) != 1 || l[0].Flags&^(api.ECE|api.CWR) != api.SYN|api.ACK {
		t.Fatalf("no SYN, ACK: %+v", l)
	}
	h.ack(iss + 1)
	h.state(3)
	return h
}

func (h *hand) out() []api.Tcp {
	h.t.Helper()
	l, e := h.Out(h.now)
	if e != api.OK {
		h.t.Fatalf("Out(%d): %d", h.now, e)
	}
	return l
}

func (h *hand) in(s api.Tcp) {
	h.t.Helper()
	if e := h.Input(s, false, h.now); e != api.OK {
		h.t.Fatalf("Input(%+v): %d", s, e)
	}
}

// seg is a segment of the peer.
func (h *hand) seg(flags byte, ack uint32, data string) api.Tcp {
	return api.Tcp{SrcPort: 2000, DstPort: 1000, Seq: h.seq, Ack: ack, Flags: flags, Window: h.win, Data: []byte(data)}
}

func (h *hand) ack(ack uint32, blocks ...api.Block) {
	h.t.Helper()
	s := h.seg(api.ACK, ack, "")
	s.Sacks = blocks
	h.in(s)
}

func (h *hand) state(want int) {
	h.t.Helper()
	if i := h.Info(); i.State != want {
		h.t.Fatalf("State %d; want %d", i.State, want)
	}
}

func (h *hand) write(n int) {
	h.t.Helper()
	if got, e := h.Write(make([]byte, n)); got != n || e != api.OK {
		h.t.Fatalf("Write(%d octets): %d, %d", n, got, e)
	}
}

// tells wants the next Out to tell just these octets (from, ahead of to).
func (h *hand) tells(places ...[2]uint32) {
	h.t.Helper()
	l := h.out()
	var got [][2]uint32
	for _, s := range l {
		got = append(got, [2]uint32{s.Seq, s.Seq + uint32(len(s.Data))})
	}
	if !reflect.DeepEqual(got, places) {
		h.t.Fatalf("at %d Out tells %v; want %v", h.now, got, places)
	}
}

// answers wants the next Out to tell an ACK alone.
func (h *hand) answers(what string) {
	h.t.Helper()
	l := h.out()
	if len(l) != 1 || l[0].Flags != api.ACK || len(l[0].Data) != 0 || l[0].Ack != h.Info().RcvNxt || l[0].Seq != h.Info().Nxt {
		h.t.Errorf("%s: Out tells %+v; want an ACK", what, l)
	}
	h.silent(what)
}

func (h *hand) silent(what string) {
	h.t.Helper()
	if l := h.out(); len(l) != 0 {
		h.t.Errorf("%s: Out tells %+v; want nothing", what, l)
	}
}

// pass goes on to a tick.
func (h *hand) pass(now int) {
	h.t.Helper()
	h.now = now
	if e := h.Tick(now); e != api.OK {
		h.t.Fatalf("Tick(%d): %d", now, e)
	}
}

// next goes on to the tick at which Tick has something to do.
func (h *hand) next(want int) {
	h.t.Helper()
	at, ok := h.Next()
	if !ok || at != want {
		h.t.Fatalf("Next: %d, %v; want %d", at, ok, want)
	}
	h.pass(at)
}

func same(t *testing.T, what string, got, want any) {
	t.Helper()
	if !reflect.DeepEqual(got, want) {
		t.Errorf("%s: %+v; want %+v", what, got, want)
	}
}

func TestExample(t *testing.T) {
	a, e := conn.Open(config(), 0)
	if e != api.OK {
		t.Fatal(e)
	}
	l, _ := a.Out(0)
	if len(l) != 1 || l[0].Flags&(api.SYN|api.ACK) != api.SYN {
		t.Fatalf("no SYN: %+v", l)
	}
	b, e := conn.Accept(changed(func(c *conn.Config) { c.SrcPort, c.DstPort, c.ISS = 2000, 1000, irs }), l[0], 1)
	if e != api.OK {
		t.Fatal(e)
	}
	l, _ = b.Out(1)
	if len(l) != 1 || l[0].Flags&(api.SYN|api.ACK) != api.SYN|api.ACK {
		t.Fatalf("no SYN, ACK: %+v", l)
	}
	a.Input(l[0], false, 2)
	l, _ = a.Out(2)
	if len(l) != 1 || l[0].Flags != api.ACK {
		t.Fatalf("no ACK: %+v", l)
	}
	b.Input(l[0], false, 3)
	if a.Info().State != 3 || b.Info().State != 3 {
		t.Errorf("states %d, %d", a.Info().State, b.Info().State)
	}
}

func TestCheckP25_1(t *testing.T) {
	for what, x := range map[string]struct {
		set       func(c *conn.Config, n int)
		low, high int
	}{
		"MSS":    {func(c *conn.Config, n int) { c.MSS = n }, 1, 8960},
		"Send":   {func(c *conn.Config, n int) { c.Send = n }, 1, maxBuffer},
		"Recv":   {func(c *conn.Config, n int) { c.Recv = n }, 1, maxBuffer},
		"Kind":   {func(c *conn.Config, n int) { c.Kind = n }, 1, 4},
		"Script": {func(c *conn.Config, n int) { c.Script = make([]int, max(n, 0)%5000) }, 0, 4096},
		"Init":   {func(c *conn.Config, n int) { c.Rtt.Init = n }, 1, 1 << 30},
		"Min":    {func(c *conn.Config, n int) { c.Rtt.Min = n }, 1, 300},
		"Max":    {func(c *conn.Config, n int) { c.Rtt.Max = n }, 10, 1 << 30},
		"Grain":  {func(c *conn.Config, n int) { c.Rtt.Grain = n }, 1, 1 << 30},
		"MSL":    {func(c *conn.Config, n int) { c.MSL = n }, 1, 1 << 30},
		"Tries":  {func(c *conn.Config, n int) { c.Tries = n }, 1, 16},
	} {
		for _, n := range []int{x.low - 1, x.low, x.high, x.high + 1, math.MinInt, math.MaxInt} {
			if what == "Script" && (n < 0 || n > 4097) {
				continue
			}
			want := api.OK
			if n < x.low || n > x.high {
				want = api.ErrConfig
			}
			c := changed(func(c *conn.Config) { x.set(c, n) })
			if e := conn.Check(c); e != want {
				t.Errorf("Check, %s %d: %d; want %d", what, n, e, want)
			}
			a, e := conn.Open(c, 0)
			b, f := conn.Accept(c, syn(), 0)
			if e != want || f != want || (a == nil) != (want != api.OK) || (b == nil) != (want != api.OK) {
				t.Errorf("%s %d: Open %d, Accept %d; want %d", what, n, e, f, want)
			}
		}
	}
	if e := conn.Check(conn.Config{}); e != api.ErrConfig {
		t.Errorf("Check of nothing: %d", e)
	}
}

func TestNewErrorsP25_1(t *testing.T) {
	bad := changed(func(c *conn.Config) { c.MSS = 0 })
	for _, x := range []struct {
		c     conn.Config
		flags byte
		now   int
		want  api.Errno
	}{
		{bad, 0, -1, api.ErrConfig},
		{config(), 0, -1, api.ErrRange},
		{config(), 0, maxTick + 1, api.ErrRange},
		{config(), 0, math.MinInt, api.ErrRange},
		{config(), 0, maxTick, api.ErrArg},
		{config(), api.ACK, 0, api.ErrArg},
		{config(), api.SYN | api.ACK, 0, api.ErrArg},
		{config(), api.SYN | api.RST, 0, api.ErrArg},
		{config(), api.SYN | api.FIN, 0, api.ErrArg},
		{config(), api.SYN, 0, api.OK},
		{config(), api.SYN, maxTick, api.OK},
		{config(), api.SYN | api.PSH | api.URG | api.ECE | api.CWR, 0, api.OK},
	} {
		s := syn()
		s.Flags = x.flags
		if c, e := conn.Accept(x.c, s, x.now); e != x.want || (c == nil) != (e != api.OK) {
			t.Errorf("Accept, flags %d, now %d: %d; want %d", x.flags, x.now, e, x.want)
		}
		want := x.want
		if want == api.ErrArg {
			want = api.OK
		}
		if c, e := conn.Open(x.c, x.now); e != want || (c == nil) != (e != api.OK) {
			t.Errorf("Open, now %d: %d; want %d", x.now, e, want)
		}
	}
}

func TestOpenP25_1(t *testing.T) {
	for recv, scale := range map[int]int{1: 0, 1000: 0, 65535: 0, 65536: 1, 131071: 1, 131072: 2, maxBuffer - 1: 4, maxBuffer: 5} {
		c, _ := conn.Open(changed(func(c *conn.Config) { c.Recv = recv }), 77)
		same(t, "Info", c.Info().State, 1)
		l, e := c.Out(78)
		want := api.Tcp{SrcPort: 1000, DstPort: 2000, Seq: iss, Flags: api.SYN | api.ECE | api.CWR, Window: uint16(min(recv, 65535)),
			MSS: 100, HasScale: true, Scale: scale, SackOK: true, HasTS: true, TSVal: 78}
		if e != api.OK || !reflect.DeepEqual(l, []api.Tcp{want}) {
			t.Errorf("Recv %d: %+v, %d; want %+v", recv, l, e, want)
		}
		if l, _ := c.Out(78); len(l) != 0 {
			t.Errorf("told twice: %+v", l)
		}
	}
}

func TestAcceptP25_1(t *testing.T) {
	full := api.Tcp{Seq: irs, Flags: api.SYN | api.ECE | api.CWR, Window: 9, MSS: 70, HasScale: true, Scale: 3, SackOK: true, HasTS: true, TSVal: 5}
	for _, x := range []struct {
		change func(s *api.Tcp)
		want   func(s *api.Tcp)
		mss    int
	}{
		{func(s *api.Tcp) {}, func(s *api.Tcp) {}, 70},
		{func(s *api.Tcp) { s.MSS = 7000 }, func(s *api.Tcp) {}, 100},
		{func(s *api.Tcp) { s.MSS = 0 }, func(s *api.Tcp) { s.MSS = 0 }, 100},
		{func(s *api.Tcp) { s.HasScale, s.Scale = false, 0 }, func(s *api.Tcp) { s.HasScale, s.Scale = false, 0 }, 70},
		{func(s *api.Tcp) { s.SackOK = false }, func(s *api.Tcp) { s.SackOK = false }, 70},
		{func(s *api.Tcp) { s.HasTS, s.TSVal = false, 0 }, func(s *api.Tcp) { s.HasTS, s.TSVal, s.TSEcr = false, 0, 0 }, 70},
		{func(s *api.Tcp) { s.Flags = api.SYN }, func(s *api.Tcp) { s.Flags = api.SYN | api.ACK }, 70},
		{func(s *api.Tcp) { s.Flags = api.SYN | api.ECE }, func(s *api.Tcp) { s.Flags = api.SYN | api.ACK }, 70},
	} {
		s := full
		x.change(&s)
		c, _ := conn.Accept(changed(func(c *conn.Config) { c.Recv = 70000 }), s, 8)
		l, _ := c.Out(9)
		want := api.Tcp{SrcPort: 1000, DstPort: 2000, Seq: iss, Ack: irs + 1, Flags: api.SYN | api.ACK | api.ECE | api.CWR, Window: 65535,
			MSS: 100, HasScale: true, Scale: 1, SackOK: true, HasTS: true, TSVal: 9, TSEcr: 5}
		x.want(&want)
		same(t, "SYN, ACK", l, []api.Tcp{want})
		if i := c.Info(); i.State != 2 || i.Mss != x.mss {
			t.Errorf("Info: %+v; want the state 2, Mss %d", i, x.mss)
		}
	}
	// A peer that tells no MSS takes 536 octets.
	c, _ := conn.Accept(changed(func(c *conn.Config) { c.MSS = 1000 }), api.Tcp{Flags: api.SYN}, 0)
	same(t, "Mss", c.Info().Mss, 536)
}

func TestNotMade(t *testing.T) {
	for _, c := range []*conn.Conn{nil, {}} {
		_, e1 := c.Out(-1)
		n, e2 := c.Write([]byte("x"))
		b, e3 := c.Read(-1)
		if n != 0 || b != nil {
			t.Errorf("Write or Read of nothing: %d, %v", n, b)
		}
		for i, e := range []api.Errno{e1, e2, e3, c.Input(api.Tcp{}, true, -1), c.Tick(-1), c.Grow(-1), c.Shut(), c.Abort()} {
			if e != api.ErrMade {
				t.Errorf("call %d: %d", i, e)
			}
		}
		at, ok := c.Next()
		if at != 0 || ok || c.Rate() != 0 || c.Info() != (conn.Info{}) {
			t.Error("Next, Rate or Info of nothing")
		}
	}
}

func TestOrderP25_1(t *testing.T) {
	h := open(t, config())
	h.pass(100)
	h.write(10)
	for _, now := range []int{99, 0, -1, math.MinInt, maxTick + 1, math.MaxInt} {
		before := h.Info()
		_, e := h.Out(now)
		if e != api.ErrOrder || h.Tick(now) != api.ErrOrder || h.Input(h.seg(api.ACK, iss+1, "x"), false, now) != api.ErrOrder {
			t.Errorf("now %d: no ErrOrder", now)
		}
		same(t, "Info", h.Info(), before)
	}
	h.tells([2]uint32{iss + 1, iss + 11})
	// A refused call is no earlier one.
	h.Abort()
	if e := h.Input(h.seg(api.ACK, iss+1, ""), false, 200); e != api.ErrClosed {
		t.Errorf("Input in the state 0: %d", e)
	}
	h.pass(150)
	h.pass(maxTick)
}

func TestWriteP25_2(t *testing.T) {
	c, _ := conn.Open(changed(func(c *conn.Config) { c.Send = 10 }), 0)
	wrote := func(n, want int, errno api.Errno) {
		t.Helper()
		if got, e := c.Write(make([]byte, n)); got != want || e != errno {
			t.Errorf("Write(%d octets): %d, %d; want %d, %d", n, got, e, want, errno)
		}
	}
	wrote(0, 0, api.OK)
	wrote(4, 4, api.OK)
	same(t, "Free", c.Info().Free, 6)
	wrote(7, 6, api.OK)
	wrote(1, 0, api.ErrWait)
	wrote(0, 0, api.OK)
	c.Shut()
	same(t, "Free", c.Info().Free, 0)
	wrote(1, 0, api.ErrClosed)
	wrote(0, 0, api.ErrClosed)

	c, _ = conn.Open(config(), 0)
	c.Out(0)
	c.Input(api.Tcp{Flags: api.RST | api.ACK, Ack: iss + 1}, false, 0)
	wrote(1, 0, api.ErrRefused)
	wrote(0, 0, api.ErrRefused)
	same(t, "Free", c.Info().Free, 0)

	c, _ = conn.Open(config(), 0)
	c.Shut()
	c.Out(0)
	c.Input(api.Tcp{Flags: api.RST | api.ACK, Ack: iss + 1}, false, 0)
	wrote(1, 0, api.ErrClosed) // Shut goes ahead
}

func TestReadP25_2(t *testing.T) {
	h := open(t, config())
	read := func(n int, want string, errno api.Errno) {
		t.Helper()
		if b, e := h.Read(n); string(b) != want || e != errno {
			t.Errorf("Read(%d): %q, %d; want %q, %d", n, b, e, want, errno)
		}
	}
	read(-1, "", api.ErrRange)
	read(0, "", api.OK)
	read(1, "", api.ErrWait)
	h.in(h.seg(api.ACK, iss+1, "abcdef"))
	h.seq += 6
	same(t, "Ready", h.Info().Ready, 6)
	read(-1, "", api.ErrRange)
	read(0, "", api.OK)
	read(2, "ab", api.OK)
	h.in(h.seg(api.ACK|api.FIN, iss+1, "gh"))
	h.state(6)
	read(0, "", api.OK)
	read(5, "cdefg", api.OK)
	read(math.MaxInt, "h", api.OK)
	read(1, "", api.ErrClosed)
	read(0, "", api.ErrClosed)
	read(-1, "", api.ErrRange)

	// In the state 0 what has come is read, and then its error told.
	h = open(t, config())
	h.in(h.seg(api.ACK, iss+1, "ab"))
	h.seq += 2
	h.in(h.seg(api.RST, 0, ""))
	h.state(0)
	same(t, "Err", h.Info().Err, api.ErrReset)
	read(0, "", api.OK)
	read(5, "ab", api.OK)
	read(5, "", api.ErrReset)
	read(0, "", api.ErrReset)

	// Without an error it is the end.
	h = open(t, config())
	h.in(h.seg(api.ACK|api.FIN, iss+1, "ab"))
	h.seq += 3
	h.Shut()
	h.out()
	h.ack(iss + 2)
	h.state(0)
	same(t, "Err", h.Info().Err, api.OK)
	read(5, "ab", api.OK)
	read(5, "", api.ErrClosed)
	if n, e := h.Write([]byte("x")); n != 0 || e != api.ErrClosed {
		t.Errorf("Write behind the end: %d, %d", n, e)
	}
}

func TestGrowP25_2(t *testing.T) {
	h := open(t, config())
	for size, want := range map[int]api.Errno{999: api.ErrRange, -1: api.ErrRange, maxBuffer + 1: api.ErrRange} {
		if e := h.Grow(size); e != want {
			t.Errorf("Grow(%d): %d", size, e)
		}
	}
	if e := h.Grow(5000); e != api.OK {
		t.Error("Grow:", e)
	}
	h.in(h.seg(api.ACK, iss+1, "x"))
	same(t, "Window", h.out()[0].Window, uint16(4999))
	if e := h.Grow(4999); e != api.ErrRange {
		t.Error("Grow to less:", e)
	}
	// Ahead of the handshake, too.
	c, _ := conn.Open(config(), 0)
	if e := c.Grow(2000); e != api.OK {
		t.Error("Grow:", e)
	}
	l, _ := c.Out(0)
	same(t, "Window", l[0].Window, uint16(2000))
	s := syn()
	s.Flags, s.Ack = api.SYN|api.ACK, iss+1
	c.Input(s, false, 0)
	l, _ = c.Out(0)
	same(t, "Window", l[0].Window, uint16(2000))
}

func TestShutP25_2(t *testing.T) {
	h := open(t, config())
	h.write(150)
	if e := h.Shut(); e != api.OK {
		t.Fatal("Shut:", e)
	}
	if e := h.Shut(); e != api.ErrClosed {
		t.Error("Shut again:", e)
	}
	l := h.out()
	if len(l) != 2 || l[0].Flags != api.ACK || len(l[0].Data) != 100 || l[1].Flags != api.ACK|api.FIN || len(l[1].Data) != 50 {
		t.Fatalf("Out: %+v", l)
	}
	h.state(4)
	h.ack(iss + 151)
	h.state(4)
	h.ack(iss + 152)
	h.state(5)
	same(t, "Una", h.Info().Una, uint32(iss+152))
	h.in(h.seg(api.ACK, iss+152, "late"))
	h.seq += 4
	h.in(h.seg(api.ACK|api.FIN, iss+152, ""))
	h.seq++
	h.state(9)
	if b, e := h.Read(9); string(b) != "late" || e != api.OK {
		t.Errorf("Read: %q, %d", b, e)
	}
	h.answers("FIN")
	h.next(1000)
	h.state(0)
	if e := h.Shut(); e != api.ErrClosed {
		t.Error("Shut in the state 0:", e)
	}
	if e := h.Abort(); e != api.ErrClosed {
		t.Error("Abort in the state 0:", e)
	}

	// Ahead of the handshake's end FIN waits for it.
	c, _ := conn.Open(config(), 0)
	c.Write([]byte("hi"))
	c.Shut()
	c.Out(0)
	s := syn()
	s.Flags, s.Ack = api.SYN|api.ACK, iss+1
	c.Input(s, false, 0)
	l, _ = c.Out(0)
	if len(l) != 1 || l[0].Flags != api.ACK|api.FIN || string(l[0].Data) != "hi" || c.Info().State != 4 {
		t.Errorf("Out: %+v", l)
	}
}

func TestClosingP25_3(t *testing.T) {
	// Both ends shut at once.
	h := open(t, config())
	h.Shut()
	h.out()
	h.in(h.seg(api.ACK|api.FIN, iss+1, ""))
	h.seq++
	h.state(7)
	h.answers("FIN")
	h.pass(5)
	h.ack(iss + 2)
	h.state(9)
	h.next(1005)
	h.state(0)

	// FIN with the ACK of this end's.
	h = open(t, config())
	h.Shut()
	h.out()
	h.in(h.seg(api.ACK|api.FIN, iss+2, ""))
	h.seq++
	h.state(9)
	h.answers("FIN")
	// The peer's FIN again: two MSL behind the last one.
	h.pass(600)
	h.seq--
	h.in(h.seg(api.ACK|api.FIN, iss+2, ""))
	h.seq++
	h.answers("FIN again")
	h.pass(1599)
	h.state(9)
	h.next(1600)
	h.state(0)
	same(t, "Err", h.Info().Err, api.OK)

	// FIN out of order waits for what is ahead of it.
	h = open(t, config())
	h.seq += 3
	h.in(h.seg(api.ACK|api.FIN, iss+1, "def"))
	h.state(3)
	h.out()
	h.seq -= 3
	h.in(h.seg(api.ACK, iss+1, "abc"))
	h.state(6)
	same(t, "RcvNxt", h.Info().RcvNxt, uint32(irs+8))
	h.answers("FIN")
	if b, e := h.Read(9); string(b) != "abcdef" || e != api.OK {
		t.Errorf("Read: %q, %d", b, e)
	}
	// Nothing comes behind it.
	h.seq += 7
	h.in(h.seg(api.ACK, iss+1, "more"))
	h.answers("behind FIN")
	if b, e := h.Read(9); len(b) != 0 || e != api.ErrClosed {
		t.Errorf("Read: %q, %d", b, e)
	}
	h.write(5)
	h.Shut()
	h.state(8)
	h.tells([2]uint32{iss + 1, iss + 6})
	h.ack(iss + 7)
	h.state(0)
}

func TestAbortP25_2(t *testing.T) {
	h := open(t, config())
	h.write(30)
	h.out()
	h.write(30)
	if e := h.Abort(); e != api.OK {
		t.Fatal("Abort:", e)
	}
	same(t, "Out", h.out(), []api.Tcp{{SrcPort: 1000, DstPort: 2000, Seq: iss + 31, Flags: api.RST}})
	h.silent("Abort")
	i := h.Info()
	if i.State != 0 || i.Err != api.ErrClosed || !i.Asleep {
		t.Errorf("Info: %+v", i)
	}
	if e := h.Abort(); e != api.ErrClosed {
		t.Error("Abort again:", e)
	}
	if b, e := h.Read(1); len(b) != 0 || e != api.ErrClosed {
		t.Errorf("Read: %q, %d", b, e)
	}
	if n, e := h.Write([]byte("x")); n != 0 || e != api.ErrClosed {
		t.Errorf("Write: %d, %d", n, e)
	}
	if _, ok := h.Next(); ok {
		t.Error("a timer in the state 0")
	}
	h.pass(10000)
	h.silent("time")
}

func TestRefusedP25_3(t *testing.T) {
	opened := func() *hand {
		c, _ := conn.Open(config(), 0)
		h := &hand{Conn: c, t: t, seq: irs}
		h.out()
		return h
	}
	h := opened()
	h.in(api.Tcp{Flags: api.RST, Seq: 0}) // no ACK
	h.state(1)
	h.in(api.Tcp{Flags: api.RST | api.ACK, Ack: iss}) // no right one
	h.state(1)
	h.in(api.Tcp{Flags: api.RST | api.ACK, Ack: iss + 2})
	h.state(1)
	h.in(api.Tcp{Flags: api.ACK, Ack: iss + 1}) // no SYN
	h.state(1)
	h.in(api.Tcp{Data: []byte("x")})
	h.silent("nothing of those is answered")
	// An ACK that is not the right one is answered by an RST.
	h.in(api.Tcp{Flags: api.ACK | api.SYN, Ack: iss + 2})
	h.in(api.Tcp{Flags: api.ACK, Ack: 7})
	same(t, "Out", h.out(), []api.Tcp{
		{SrcPort: 1000, DstPort: 2000, Seq: iss + 2, Flags: api.RST},
		{SrcPort: 1000, DstPort: 2000, Seq: 7, Flags: api.RST}})
	h.state(1)
	h.in(api.Tcp{Flags: api.RST | api.ACK, Ack: iss + 1})
	h.state(0)
	if _, e := h.Read(1); e != api.ErrRefused {
		t.Error("Read:", e)
	}
	h.silent("refused")

	// Both ends ask at once.
	h = opened()
	h.in(syn())
	h.state(2)
	l := h.out()
	if len(l) != 1 || l[0].Flags != api.SYN|api.ACK || l[0].Seq != iss || l[0].Ack != irs+1 {
		t.Errorf("Out: %+v", l)
	}
	h.seq, h.win = irs+1, 60000
	h.ack(iss + 1)
	h.state(3)

	// An RST where the handshake is not at its end.
	x, _ := conn.Accept(config(), syn(), 0)
	h = &hand{Conn: x, t: t, seq: irs + 1}
	h.out()
	h.ack(iss) // not acceptable
	same(t, "Out", h.out(), []api.Tcp{{SrcPort: 1000, DstPort: 2000, Seq: iss, Flags: api.RST}})
	h.ack(iss + 2)
	h.answers("an ACK beyond Nxt")
	h.in(syn())
	h.answers("the SYN again")
	h.in(h.seg(api.RST, 0, ""))
	h.state(0)
	same(t, "Err", h.Info().Err, api.ErrReset)
}

func TestSayNothingP25_3(t *testing.T) {
	h := open(t, config())
	h.write(50)
	h.out()
	h.in(h.seg(api.ACK, iss+1, "abcde"))
	h.out()
	h.seq += 5
	win := uint32(995)
	before := h.Info()
	at := h.seq
	for what, s := range map[string]api.Tcp{
		"octets behind the window":   {Seq: at + win, Flags: api.ACK, Ack: iss + 51, Data: []byte("x")},
		"none behind the window":     {Seq: at + win, Flags: api.ACK, Ack: iss + 51, Window: 65535},
		"far behind the window":      {Seq: at + 1<<30, Flags: api.ACK | api.FIN, Ack: iss + 51, Data: []byte("x")},
		"octets ahead of the window": {Seq: at - 5, Flags: api.ACK, Ack: iss + 51, Data: []byte("abcde")},
		"none ahead of the window":   {Seq: at - 1, Flags: api.ACK, Ack: iss + 51},
		"SYN ahead of it":            {Seq: at - 6, Flags: api.SYN, Window: 10},
		"SYN in it":                  {Seq: at, Flags: api.SYN, Data: []byte("x")},
		"SYN, ACK in it":             {Seq: at + 9, Flags: api.SYN | api.ACK, Ack: iss + 51},
		"RST in it":                  {Seq: at + 1, Flags: api.RST},
		"RST at its end":             {Seq: at + win - 1, Flags: api.RST | api.ACK, Ack: iss + 51},
		"an ACK beyond Nxt":          {Seq: at, Flags: api.ACK, Ack: iss + 52, Data: []byte("x")},
		"an ACK far beyond Nxt":      {Seq: at, Flags: api.ACK, Ack: iss + 1<<30},
	} {
		h.in(s)
		if got := h.Info(); got.Asleep {
			t.Errorf("%s: asleep", what)
		}
		h.answers(what)
		same(t, what, h.Info(), before)
	}
	for what, s := range map[string]api.Tcp{
		"RST behind the window":   {Seq: at + win, Flags: api.RST},
		"RST ahead of the window": {Seq: at - 1, Flags: api.RST | api.ACK, Ack: iss + 51},
		"no ACK":                  {Seq: at},
	} {
		h.in(s)
		h.silent(what)
		same(t, what, h.Info(), before)
	}
	h.in(api.Tcp{Seq: at, Data: []byte("x")})
	h.answers("octets without ACK")
	same(t, "no ACK", h.Info(), before)

	// What lies in the window in part is taken in part.
	h.in(api.Tcp{Seq: at - 2, Flags: api.ACK, Ack: iss + 51, Data: []byte("deFGH"), Window: 60000})
	same(t, "Una", h.Info().Una, uint32(iss+51))
	if b, _ := h.Read(100); string(b) != "abcdeFGH" {
		t.Errorf("Read: %q", b)
	}
	h.in(api.Tcp{Seq: at + 3, Flags: api.RST})
	h.state(0)
	same(t, "Err", h.Info().Err, api.ErrReset)
	h.silent("RST")
}

func TestClosedWindowP25_3(t *testing.T) {
	h := open(t, changed(func(c *conn.Config) { c.Recv = 3 }))
	h.write(50)
	h.out()
	h.in(h.seg(api.ACK, iss+1, "abcd"))
	h.seq += 3
	l := h.out()
	if len(l) != 1 || l[0].Window != 0 || l[0].Ack != irs+4 {
		t.Fatalf("Out: %+v", l)
	}
	// Octets are turned away; an ACK is not.
	h.in(h.seg(api.ACK, iss+1, "d"))
	h.answers("an octet where there is no room")
	h.ack(iss + 51)
	same(t, "Una", h.Info().Una, uint32(iss+51))
	h.silent("ACK")
	// A Read that opens the window is told, another one is not.
	h.Read(0)
	h.silent("Read of none")
	h.Read(1)
	l = h.out()
	if len(l) != 1 || l[0].Window != 1 || l[0].Flags != api.ACK {
		t.Errorf("Out: %+v", l)
	}
	h.Read(1)
	h.silent("the window was open")

	// A window that is less than its scale tells is closed, too.
	s := syn()
	s.HasScale = true
	h = openBy(t, changed(func(c *conn.Config) { c.Recv = 131072 }), s)
	for range 2 {
		h.in(h.seg(api.ACK, iss+1, string(make([]byte, 65535))))
		h.seq += 65535
	}
	if l := h.out(); l[0].Window != 0 {
		t.Errorf("Window %d", l[0].Window)
	}
	h.Read(1)
	h.silent("three octets are none")
	h.Read(1)
	if l := h.out(); len(l) != 1 || l[0].Window != 1 {
		t.Errorf("Out: %+v", l)
	}
}

func TestStampsP25_3(t *testing.T) {
	s := syn()
	s.HasTS, s.TSVal = true, 100
	x, _ := conn.Accept(config(), s, 0)
	h := &hand{Conn: x, t: t, seq: irs + 1, win: 1000}
	h.out()
	stamped := func(flags byte, val uint32, data string) api.Tcp {
		s := h.seg(flags, iss+1, data)
		s.HasTS, s.TSVal = true, val
		return s
	}
	h.in(stamped(api.ACK, 110, ""))
	h.state(3)
	tells := func(what string, ecr, ack uint32) {
		t.Helper()
		l := h.out()
		if len(l) != 1 || !l[0].HasTS || l[0].TSVal != uint32(h.now) || l[0].TSEcr != ecr || l[0].Ack != ack {
			t.Errorf("%s: Out tells %+v; want TSEcr %d, Ack %d", what, l, ecr, ack)
		}
	}
	h.pass(7)
	h.in(stamped(api.ACK, 109, "x")) // elder
	tells("elder", 110, irs+1)
	h.in(stamped(api.ACK, 110, "x"))
	h.seq++
	tells("the same", 110, irs+2)
	h.in(stamped(api.ACK, 120, "x"))
	h.seq++
	tells("later", 120, irs+3)
	// One out of order does not count till it is in order.
	h.seq += 5
	h.in(stamped(api.ACK, 150, "x"))
	h.seq -= 5
	tells("out of order", 120, irs+3)
	h.in(stamped(api.ACK, 130, "x"))
	h.seq++
	tells("in order", 130, irs+4)
	// Segments without a timestamp are taken; an elder RST, too.
	h.in(h.seg(api.ACK, iss+1, "x"))
	h.seq++
	tells("without", 130, irs+5)
	h.in(stamped(api.RST, 1, ""))
	h.state(0)

	// Behind half of all ticks that there are stamps for none is elder.
	x, _ = conn.Accept(config(), s, 0)
	h = &hand{Conn: x, t: t, seq: irs + 1, win: 1000}
	h.out()
	h.in(stamped(api.ACK, 110, ""))
	h.pass(1 << 31)
	h.in(stamped(api.ACK, 110+1<<31+5, "x"))
	same(t, "RcvNxt", h.Info().RcvNxt, uint32(irs+2))

	// Stamps that were not agreed upon say nothing, and none are told.
	h = open(t, config())
	h.in(stamped(api.ACK, 100, "x"))
	h.seq++
	h.in(stamped(api.ACK, 50, "x"))
	same(t, "RcvNxt", h.Info().RcvNxt, uint32(irs+3))
	if l := h.out(); l[0].HasTS || l[0].TSVal != 0 || l[0].TSEcr != 0 {
		t.Errorf("Out: %+v", l)
	}
}

func TestSacksP25_4(t *testing.T) {
	for _, stamps := range []bool{false, true} {
		s := syn()
		s.HasTS = stamps
		h := openBy(t, config(), s)
		for i := range uint32(5) {
			s := h.seg(api.ACK, iss+1, "x")
			s.Seq += 10 + 10*i
			h.in(s)
		}
		want := []api.Block{{Left: irs + 51, Right: irs + 52}, {Left: irs + 41, Right: irs + 42}, {Left: irs + 31, Right: irs + 32}, {Left: irs + 21, Right: irs + 22}}
		if stamps { // the options have no room for more
			want = want[:3]
		}
		same(t, "Sacks", h.out()[0].Sacks, want)
	}
	s := syn()
	s.SackOK = false
	h := openBy(t, config(), s)
	s = h.seg(api.ACK, iss+1, "x")
	s.Seq += 10
	h.in(s)
	if l := h.out(); len(l) != 1 || l[0].Sacks != nil {
		t.Errorf("Out: %+v", l)
	}
	// Blocks that were not agreed upon say nothing.
	h.write(1000)
	h.out()
	h.ack(iss+1, api.Block{Left: iss + 101, Right: iss + 1001})
	if i := h.Info(); i.Mending || i.Pipe != 1000 {
		t.Errorf("Info: %+v", i)
	}
}

func TestEcnP25_3(t *testing.T) {
	reno := func() conn.Config { return changed(func(c *conn.Config) { c.Kind = 1 }) }
	s := syn()
	s.Flags |= api.ECE | api.CWR
	h := openBy(t, reno(), s)
	data := func(flags byte, ce bool) {
		t.Helper()
		h.Input(h.seg(api.ACK|flags, h.Info().Una, "x"), ce, h.now)
		h.seq++
	}
	echo := func(what string, want bool) {
		t.Helper()
		if l := h.out(); len(l) != 1 || (l[0].Flags&api.ECE != 0) != want {
			t.Errorf("%s: %+v; want ECE: %v", what, l, want)
		}
	}
	data(0, false)
	echo("no mark", false)
	data(0, true)
	echo("a mark", true)
	data(0, false)
	echo("till CWR", true)
	data(api.CWR, false)
	echo("CWR", false)
	data(api.CWR, true)
	echo("CWR that is marked", true)
	data(api.CWR, false)
	echo("CWR", false)
	h.Input(api.Tcp{Seq: h.seq - 1, Flags: api.ACK, Data: []byte("x")}, true, h.now)
	echo("what says nothing says no mark", false)

	// ECE is a loss, once a window; the next new data say CWR.
	h = openBy(t, reno(), s)
	h.write(3000)
	if l := h.out(); len(l) != 10 {
		t.Fatalf("%d segments", len(l))
	}
	same(t, "Window", h.Info().Window, 1000)
	ece := func(ack uint32, window int) {
		t.Helper()
		h.in(h.seg(api.ACK|api.ECE, ack, ""))
		if i := h.Info(); i.Window != window || i.Mending {
			t.Errorf("ECE with %d: %+v; want a window of %d", ack, i, window)
		}
	}
	ece(iss+101, 500)
	ece(iss+201, 500)
	ece(iss+501, 500)
	ece(iss+601, 600)
	l := h.out()
	if len(l) != 2 || l[0].Flags != api.ACK|api.CWR || l[1].Flags != api.ACK {
		t.Errorf("Out: %+v", l)
	}
	ece(iss+1001, 600)
	h.out()
	ece(iss+1101, 300)

	// Where it was not agreed upon it says nothing.
	h = open(t, reno())
	h.write(3000)
	h.out()
	ece(iss+101, 1100)
	data(0, true)
	for _, s := range h.out() {
		if s.Flags != api.ACK {
			t.Errorf("Out: %+v", s)
		}
	}
	for flags, ecn := range map[byte]bool{api.SYN | api.ACK | api.ECE | api.CWR: true, api.SYN | api.ACK: false} {
		c, _ := conn.Open(reno(), 0)
		h = &hand{Conn: c, t: t, seq: irs + 1, win: 60000}
		h.out()
		s := syn()
		s.Flags, s.Ack = flags, iss+1
		h.in(s)
		h.out()
		data(0, true)
		echo("by Open", ecn)
	}
}

func TestEdgeP25_4(t *testing.T) {
	h := open(t, config())
	edge := func(want uint32) {
		t.Helper()
		same(t, "Edge", h.Info().Edge, want)
	}
	edge(iss + 1 + 60000)
	h = open(t, config())
	h.write(1000)
	h.out()
	h.win = 1000
	h.ack(iss + 1) // an edge is not taken back
	edge(iss + 60001)

	s := syn()
	s.HasScale, s.Scale = true, 2
	x, _ := conn.Accept(config(), s, 0)
	h = &hand{Conn: x, t: t, seq: irs + 1, win: 60}
	h.out()
	h.ack(iss + 1)
	edge(iss + 241)
	h.write(1000)
	h.tells([2]uint32{iss + 1, iss + 101}, [2]uint32{iss + 101, iss + 201}, [2]uint32{iss + 201, iss + 241})
	h.silent("the edge")
	h.win = 35
	h.ack(iss + 101)
	edge(iss + 241)
	h.silent("the edge")
	h.win = 36
	h.ack(iss + 101)
	edge(iss + 245)
	h.tells([2]uint32{iss + 241, iss + 245}) // nothing is held back
	h.ack(iss + 245)
	h.tells([2]uint32{iss + 245, iss + 345}, [2]uint32{iss + 345, iss + 389})

	// A scale above 14 is 14; one by chance is none.
	for scale, want := range map[int]uint32{15: 1 << 14, 255: 1 << 14, math.MaxInt: 1 << 14, -1: 1} {
		s.Scale = scale
		x, _ := conn.Accept(config(), s, 0)
		h = &hand{Conn: x, t: t, seq: irs + 1, win: 1}
		h.out()
		h.ack(iss + 1)
		edge(iss + 1 + want)
	}
	// FIN takes a number, too.
	x, _ = conn.Accept(config(), syn(), 0)
	h = &hand{Conn: x, t: t, seq: irs + 1, win: 5}
	h.out()
	h.ack(iss + 1)
	h.write(5)
	h.Shut()
	l := h.out()
	if len(l) != 1 || l[0].Flags != api.ACK {
		t.Errorf("Out: %+v", l)
	}
	h.win = 1
	h.ack(iss + 6)
	l = h.out()
	if len(l) != 1 || l[0].Flags != api.ACK|api.FIN || l[0].Seq != iss+6 {
		t.Errorf("Out: %+v", l)
	}
}

func TestWindowP25_4(t *testing.T) {
	h := open(t, changed(func(c *conn.Config) { c.Script = []int{250, 7, 330, 8, 1, 9, 500, 10} }))
	h.write(1000)
	same(t, "Rate", h.Rate(), 7)
	h.tells([2]uint32{iss + 1, iss + 101}, [2]uint32{iss + 101, iss + 201}, [2]uint32{iss + 201, iss + 251})
	same(t, "Pipe", h.Info().Pipe, 250)
	h.ack(iss + 101) // 330
	same(t, "Window", h.Info().Window, 330)
	same(t, "Rate", h.Rate(), 8)
	h.tells([2]uint32{iss + 251, iss + 351}, [2]uint32{iss + 351, iss + 431})
	h.ack(iss + 251) // 1, that is 100
	same(t, "Window", h.Info().Window, 100)
	h.silent("180 are on their way")
	h.ack(iss + 251) // nothing new
	same(t, "Window", h.Info().Window, 100)
	h.ack(iss + 351)
	same(t, "Window", h.Info().Window, 500)
	h.tells([2]uint32{iss + 431, iss + 531}, [2]uint32{iss + 531, iss + 631}, [2]uint32{iss + 631, iss + 731}, [2]uint32{iss + 731, iss + 831}, [2]uint32{iss + 831, iss + 851})

	// What is in a block is not on its way.
	h = open(t, changed(func(c *conn.Config) { c.Script = []int{300, 0} }))
	h.write(1000)
	h.out()
	h.ack(iss+1, api.Block{Left: iss + 201, Right: iss + 251})
	h.tells([2]uint32{iss + 301, iss + 351})
}

func TestMendingP25_4(t *testing.T) {
	h := open(t, changed(func(c *conn.Config) { c.Script = []int{1000, 0, 1000, 0, 1000, 0, 1000, 0, 1000, 0, 500, 0} }))
	h.write(3000)
	if l := h.out(); len(l) != 10 {
		t.Fatalf("%d segments", len(l))
	}
	h.ack(iss + 201)
	h.out()
	// Two octets on their way are missing: 201 to 300 and 401 to 500.
	h.ack(iss+201, api.Block{Left: iss + 301, Right: iss + 401})
	h.tells([2]uint32{iss + 1201, iss + 1301})
	h.ack(iss+201, api.Block{Left: iss + 501, Right: iss + 601}, api.Block{Left: iss + 301, Right: iss + 401})
	h.tells([2]uint32{iss + 1301, iss + 1401})
	same(t, "Mending", h.Info().Mending, false)
	h.ack(iss+201, api.Block{Left: iss + 501, Right: iss + 701}, api.Block{Left: iss + 301, Right: iss + 401})
	same(t, "Mending", h.Info().Mending, true)
	same(t, "Window", h.Info().Window, 500)
	h.tells([2]uint32{iss + 201, iss + 301}) // one, when a loss is found
	same(t, "Pipe", h.Info().Pipe, 900)      // what came, and what is lost, is not on its way
	h.silent("PRR")
	h.ack(iss+201, api.Block{Left: iss + 501, Right: iss + 1101}, api.Block{Left: iss + 301, Right: iss + 401})
	// 401 to 500 are lost, too: 201 to 300 and 1101 to 1400 are on their way.
	same(t, "Pipe", h.Info().Pipe, 400)
	h.tells([2]uint32{iss + 401, iss + 501})
	h.silent("PRR")
	// All that was on its way when the loss was found has come.
	h.ack(iss + 1301)
	same(t, "Mending", h.Info().Mending, true)
	h.ack(iss + 1401)
	same(t, "Mending", h.Info().Mending, false)
	h.out()

	// Where the window is closed to all else, one segment goes when a loss is found.
	h = open(t, changed(func(c *conn.Config) { c.Script = []int{1000, 0, 100, 0} }))
	h.write(3000)
	h.out()
	h.ack(iss+1, api.Block{Left: iss + 101, Right: iss + 401})
	same(t, "Mending", h.Info().Mending, true)
	h.tells([2]uint32{iss + 1, iss + 101})
	h.silent("one alone")
}

// TestPrrP25_4: what is sent while a loss is mended is not more than PRR allows.
func TestPrrP25_4(t *testing.T) {
	// The window stays 20 segments, as a controller that hears of losses may do;
	// PRR holds back though the window lets go.
	h := open(t, changed(func(c *conn.Config) { c.Script = []int{2000, 0} }))
	h.write(9000)
	h.out()
	h.ack(iss+1, api.Block{Left: iss + 101, Right: iss + 401})
	sent := 0
	for _, s := range h.out() {
		sent += len(s.Data)
	}
	// 300 came: with a segment more that is 400.
	same(t, "octets", sent, 400)
	h.silent("PRR")
	h.ack(iss+1, api.Block{Left: iss + 101, Right: iss + 501})
	sent = 0
	for _, s := range h.out() {
		sent += len(s.Data)
	}
	same(t, "octets", sent, 100)
}

func TestRescueP25_4(t *testing.T) {
	// Nothing new is there to be sent: what is below a block goes again, though it
	// is not lost.
	h := open(t, config())
	h.write(1000)
	h.out()
	h.ack(iss+1, api.Block{Left: iss + 101, Right: iss + 501}, api.Block{Left: iss + 601, Right: iss + 701})
	h.tells([2]uint32{iss + 1, iss + 101}, [2]uint32{iss + 501, iss + 601})
	// New octets go ahead of that.
	h = open(t, config())
	h.write(1000)
	h.out()
	h.ack(iss+1, api.Block{Left: iss + 101, Right: iss + 501}, api.Block{Left: iss + 601, Right: iss + 701})
	h.write(100)
	h.tells([2]uint32{iss + 1, iss + 101}, [2]uint32{iss + 1001, iss + 1101}, [2]uint32{iss + 501, iss + 601})
}

func TestRedoP25_4(t *testing.T) {
	h := open(t, changed(func(c *conn.Config) { c.Script = []int{1000, 0, 100, 0, 200, 0, 300, 0, 1000, 0} }))
	h.write(2000)
	h.out()
	h.ack(iss + 1) // nothing new
	h.next(10)     // the handshake took no tick: the least time
	same(t, "Window", h.Info().Window, 100)
	h.tells([2]uint32{iss + 1, iss + 101})
	h.silent("one")
	same(t, "Pipe", h.Info().Pipe, 100)
	same(t, "Nxt", h.Info().Nxt, uint32(iss+1001))
	h.pass(11)
	h.ack(iss + 101)
	h.tells([2]uint32{iss + 101, iss + 201}, [2]uint32{iss + 201, iss + 301})
	// What was sent ahead of it has come: it is not sent again.
	h.ack(iss + 501)
	h.tells([2]uint32{iss + 501, iss + 601}, [2]uint32{iss + 601, iss + 701}, [2]uint32{iss + 701, iss + 801})
	h.ack(iss + 801)
	h.tells([2]uint32{iss + 801, iss + 901}, [2]uint32{iss + 901, iss + 1001}, // again
		[2]uint32{iss + 1001, iss + 1101}, [2]uint32{iss + 1101, iss + 1201}, [2]uint32{iss + 1201, iss + 1301}, [2]uint32{iss + 1301, iss + 1401},
		[2]uint32{iss + 1401, iss + 1501}, [2]uint32{iss + 1501, iss + 1601}, [2]uint32{iss + 1601, iss + 1701}, [2]uint32{iss + 1701, iss + 1801})

	// A window that is full lets one segment go.
	h = open(t, changed(func(c *conn.Config) { c.Kind = 3 }))
	h.write(300)
	h.Shut()
	h.out()
	h.next(10)
	l := h.out()
	if len(l) != 3 || l[2].Flags != api.ACK|api.FIN || len(l[2].Data) != 100 {
		t.Errorf("Out: %+v", l)
	}
}

// openShut makes an end that is established, to a peer that has no window.
func openShut(t *testing.T) *hand {
	x, _ := conn.Accept(config(), syn(), 0)
	h := &hand{Conn: x, t: t, seq: irs + 1}
	h.out()
	h.ack(iss + 1)
	return h
}

func TestProbeP25_4(t *testing.T) {
	h := openShut(t)
	h.state(3)
	same(t, "Asleep", h.Info().Asleep, true)
	h.write(20)
	same(t, "Asleep", h.Info().Asleep, false)
	h.silent("no window")
	h.next(10)
	h.tells([2]uint32{iss + 1, iss + 2})
	h.silent("one octet")
	same(t, "Nxt", h.Info().Nxt, uint32(iss+2))
	// An answer that opens nothing: it is probed on and on, ever more slowly.
	wait, at := 20, 10
	for range 10 {
		h.ack(iss + 1)
		h.silent("no window")
		at += wait
		h.next(at)
		h.tells([2]uint32{iss + 1, iss + 2})
		wait = min(2*wait, 300)
	}
	h.state(3)
	// What is told meanwhile lies where the peer waits.
	h.in(h.seg(api.ACK, iss+1, "x"))
	h.seq++
	if l := h.out(); len(l) != 1 || l[0].Seq != iss+1 || l[0].Ack != irs+2 {
		t.Errorf("Out: %+v", l)
	}
	// It opens: the octet goes again, and all else at once.
	h.win = 30
	h.ack(iss + 1)
	h.tells([2]uint32{iss + 1, iss + 2}, [2]uint32{iss + 2, iss + 21})
	h.ack(iss + 21)
	same(t, "Asleep", h.Info().Asleep, true)

	// The peer says where it waits, in a segment that says nothing else: what is
	// told then lies there.
	h = openShut(t)
	h.write(20)
	h.next(10)
	h.tells([2]uint32{iss + 1, iss + 2})
	for _, ack := range []uint32{iss + 2, iss + 1, iss + 2, iss} {
		s := h.seg(api.ACK, ack, "")
		s.Seq--
		h.in(s)
		want := ack
		if ack == iss {
			want = iss + 1
		}
		if l := h.out(); len(l) != 1 || l[0].Seq != want {
			t.Errorf("the peer waits for %d: Out tells %+v", ack, l)
		}
		same(t, "Una", h.Info().Una, uint32(iss+1))
	}
	// The octet was taken.
	h = openShut(t)
	h.write(20)
	h.Shut()
	h.next(10)
	h.tells([2]uint32{iss + 1, iss + 2})
	h.ack(iss + 2)
	same(t, "Edge", h.Info().Edge, uint32(iss+2))
	h.silent("no window")
	h.next(20)
	h.tells([2]uint32{iss + 2, iss + 3})
	// Nobody answers.
	h.next(40)
	h.out()
	h.next(80)
	h.out()
	h.next(160)
	h.state(0)
	same(t, "Err", h.Info().Err, api.ErrTimeout)

	// FIN probes, too.
	h = openShut(t)
	h.Shut()
	h.silent("no window")
	h.next(10)
	l := h.out()
	if len(l) != 1 || l[0].Flags != api.ACK|api.FIN || l[0].Seq != iss+1 {
		t.Errorf("Out: %+v", l)
	}
	h.ack(iss + 2)
	h.state(5)

	// Time that ran out while the window was closed says nothing once it is open.
	h = openShut(t)
	h.write(20)
	h.next(10)
	h.win = 5
	h.ack(iss + 1)
	h.tells([2]uint32{iss + 1, iss + 6})
}

func TestAtOnceP25_4(t *testing.T) {
	h := open(t, config())
	h.write(1)
	h.tells([2]uint32{iss + 1, iss + 2})
	h.write(1) // though one is on its way
	h.tells([2]uint32{iss + 2, iss + 3})
	h.in(h.seg(api.ACK, iss+1, "x"))
	h.seq++
	h.answers("octets")
	h.in(h.seg(api.ACK, iss+1, "x"))
	h.seq++
	h.write(1)
	l := h.out() // octets answer, too
	if len(l) != 1 || l[0].Ack != irs+3 || len(l[0].Data) != 1 {
		t.Errorf("Out: %+v", l)
	}
	h.silent("answered")
	h.ack(iss + 4)
	h.silent("an ACK is not answered")
	h.in(h.seg(api.ACK|api.FIN, iss+4, ""))
	h.seq++
	h.answers("FIN")
}

func TestTriesP25_5(t *testing.T) {
	for _, tries := range []int{1, 2, 4, 16} {
		c, _ := conn.Open(changed(func(c *conn.Config) { c.Tries = tries }), 0)
		h := &hand{Conn: c, t: t}
		if _, ok := c.Next(); ok {
			t.Error("nothing is on its way yet")
		}
		wait, at := 50, 0
		for range tries {
			h.state(1)
			l := h.out()
			if len(l) != 1 || l[0].Flags != api.SYN|api.ECE|api.CWR || l[0].Seq != iss {
				t.Errorf("Out: %+v", l)
			}
			h.silent("once")
			same(t, "Rto", h.Info().Rto, wait)
			at += wait
			h.pass(at - 1)
			h.silent("it is not yet time")
			h.next(at)
			wait = min(2*wait, 300)
		}
		h.state(0)
		same(t, "Err", h.Info().Err, api.ErrTimeout)
		h.silent("given up")
		if _, e := h.Read(1); e != api.ErrTimeout {
			t.Error("Read:", e)
		}
	}
	// SYN, ACK is told again, too.
	x, _ := conn.Accept(config(), syn(), 0)
	h := &hand{Conn: x, t: t, seq: irs + 1, win: 1000}
	h.out()
	h.next(50)
	if l := h.out(); len(l) != 1 || l[0].Flags != api.SYN|api.ACK || l[0].Seq != iss || l[0].Ack != irs+1 {
		t.Errorf("Out: %+v", l)
	}
	h.ack(iss + 1)
	h.state(3)
	// An answer breaks the row.
	h.write(500)
	h.out()
	for i := range 5 {
		for range 3 {
			at, _ := h.Next()
			h.next(at)
			h.out()
		}
		h.ack(iss + 101 + 100*uint32(i))
		h.out()
	}
	h.state(3)
	h.write(1)
	h.out()
	for range 4 {
		h.state(3)
		at, _ := h.Next()
		h.next(at)
	}
	h.state(0)
	same(t, "Err", h.Info().Err, api.ErrTimeout)
}

func TestRttP25_5(t *testing.T) {
	h := open(t, config())
	same(t, "Rto", h.Info().Rto, 10)
	h.write(100)
	h.out()
	h.pass(8)
	h.ack(iss + 101) // a second sample of 8: 8 / 8 and 8
	same(t, "Rto", h.Info().Rto, 10)
	h.write(100)
	h.out()
	if at, ok := h.Next(); at != 18 || !ok {
		t.Errorf("Next: %d, %v", at, ok)
	}
	// What was sent twice says nothing of the time.
	c, _ := conn.Open(config(), 0)
	h = &hand{Conn: c, t: t, seq: irs, win: 1000}
	h.out()
	h.next(50)
	h.out()
	h.pass(60)
	s := syn()
	s.Flags, s.Ack = api.SYN|api.ACK, iss+1
	h.in(s)
	h.state(3)
	same(t, "Rto", h.Info().Rto, 100)
	h.seq++
	h.write(100)
	h.out()
	h.pass(67)
	h.ack(iss + 101) // the first sample: 7 and 14
	same(t, "Rto", h.Info().Rto, 21)
}

func TestInfoP25_5(t *testing.T) {
	h := open(t, config())
	want := conn.Info{State: 3, Una: iss + 1, Nxt: iss + 1, Edge: iss + 60001, RcvNxt: irs + 1, Window: 5000, Mss: 100, Rto: 10, Free: 10000, Asleep: true}
	same(t, "Info", h.Info(), want)
	if _, ok := h.Next(); ok {
		t.Error("a timer where nothing is on its way")
	}
	h.write(150)
	want.Free, want.Asleep = 9850, false
	same(t, "Info", h.Info(), want)
	h.out()
	want.Nxt, want.Pipe = iss+151, 150
	same(t, "Info", h.Info(), want)
	h.in(h.seg(api.ACK, iss+151, "abc"))
	want.Una, want.Pipe, want.Free, want.Edge, want.RcvNxt, want.Ready = iss+151, 0, 10000, iss+60151, irs+4, 3
	same(t, "Info", h.Info(), want) // the ACK is due
	h.out()
	want.Asleep = true
	same(t, "Info", h.Info(), want)
	h.in(h.seg(api.RST, 0, ""))
	h.seq += 3
	h.in(h.seg(api.RST, 0, ""))
	want.State, want.Err, want.Free = 0, api.ErrReset, 0
	same(t, "Info", h.Info(), want)
}

func TestMemoryP25_9(t *testing.T) {
	c := config()
	c.Script = []int{1000, 5, 900, 4}
	h := open(t, c)
	c.Script[0], c.Script[2] = 1, 1
	same(t, "Window", h.Info().Window, 1000)
	b := []byte("octets")
	h.Write(b)
	b[0] = 'x'
	l := h.out()
	same(t, "Data", string(l[0].Data), "octets")
	l[0].Data[0] = 'y'
	h.next(10)
	same(t, "Data", string(h.out()[0].Data), "octets")

	s := h.seg(api.ACK, iss+1, "abc")
	s.Seq += 5
	s.Sacks = []api.Block{{Left: iss + 3, Right: iss + 5}}
	kept := s
	kept.Data, kept.Sacks = bytes.Clone(s.Data), []api.Block{s.Sacks[0]}
	h.in(s)
	same(t, "what is handed in", s, kept)
	s.Data[0], s.Sacks[0].Left = 'z', 0
	l = h.out()
	l[0].Sacks[0].Left = 7
	h.in(h.seg(api.ACK, iss+1, "01234"))
	h.in(h.seg(api.ACK, iss+1, "")) // turned away: answered
	if b, _ := h.Read(100); string(b) != "01234abc" {
		t.Errorf("Read: %q", b)
	} else {
		b[0] = 'x'
	}
}
