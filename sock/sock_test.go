package sock_test

import (
	"bytes"
	"math"
	"math/rand"
	"reflect"
	"testing"

	"stopcock/api"
	"stopcock/conn"
	"stopcock/rtt"
	"stopcock/sock"
)

const (
	maxTick   = 1 << 40
	maxBuffer = 1 << 20
	peer      = 77 // an address
)

func config() sock.Config {
	return sock.Config{IP: 1, Most: 4, Conn: conn.Config{MSS: 100, Send: 1000, Recv: 1000, Kind: 1,
		Rtt: rtt.Params{Init: 50, Min: 10, Max: 300, Grain: 1}, MSL: 500, Tries: 4}}
}

func changed(f func(c *sock.Config)) sock.Config {
	c := config()
	f(&c)
	return c
}

func made(t *testing.T, c sock.Config) *sock.Stack {
	t.Helper()
	s, e := sock.New(c)
	if s == nil || e != api.OK {
		t.Fatalf("New: %v, %d", s, e)
	}
	return s
}

// number wants a call to answer a number.
func number(t *testing.T, want int) func(int, api.Errno) {
	return func(got int, e api.Errno) {
		t.Helper()
		if got != want || e != api.OK {
			t.Fatalf("%d, %d; want the number %d", got, e, want)
		}
	}
}

// refused wants a call to answer an error.
func refused(t *testing.T, want api.Errno) func(int, api.Errno) {
	return func(got int, e api.Errno) {
		t.Helper()
		if got != 0 || e != want {
			t.Errorf("%d, %d; want the error %d", got, e, want)
		}
	}
}

func out(t *testing.T, s *sock.Stack, now int) []sock.Packet {
	t.Helper()
	l, e := s.Out(now)
	if e != api.OK {
		t.Fatalf("Out(%d): %d", now, e)
	}
	return l
}

func in(t *testing.T, s *sock.Stack, seg api.Tcp) {
	t.Helper()
	if e := s.Input(peer, seg, false, 0); e != api.OK {
		t.Fatalf("Input(%+v): %d", seg, e)
	}
}

func same(t *testing.T, what string, got, want any) {
	t.Helper()
	if !reflect.DeepEqual(got, want) {
		t.Errorf("%s: %+v; want %+v", what, got, want)
	}
}

func syn(from, to uint16) api.Tcp {
	return api.Tcp{SrcPort: from, DstPort: to, Seq: 1000, Flags: api.SYN, Window: 5000}
}

// shake ends a handshake by hand: a peer asked from a port, its SYN is in.
func shake(t *testing.T, s *sock.Stack, from, to uint16) {
	t.Helper()
	for _, p := range out(t, s, 0) {
		if p.Seg.DstPort == from && p.Seg.Flags == api.SYN|api.ACK {
			in(t, s, api.Tcp{SrcPort: from, DstPort: to, Seq: 1001, Ack: p.Seg.Seq + 1, Flags: api.ACK, Window: 5000})
			return
		}
	}
	t.Fatalf("no SYN, ACK to %d", from)
}

func TestExample(t *testing.T) {
	a, b := made(t, config()), made(t, config())
	number(t, 0)(a.Connect(2, 80, 1024, 0))
	l := out(t, a, 0)
	if len(l) != 1 || l[0].Peer != 2 || l[0].Seg.SrcPort != 1024 || l[0].Seg.DstPort != 80 {
		t.Fatalf("Out: %+v", l)
	}
	b.Input(1, l[0].Seg, false, 1)
	l = out(t, b, 1)
	same(t, "Out", l, []sock.Packet{{Peer: 1, Seg: api.Tcp{SrcPort: 80, DstPort: 1024, Ack: l[0].Seg.Ack, Flags: api.RST | api.ACK}}})
	a.Input(2, l[0].Seg, false, 2)
	if _, e := a.Read(0, 1); e != api.ErrRefused {
		t.Error("Read:", e)
	}
}

func TestCheckP26_1(t *testing.T) {
	for _, x := range []struct {
		set  func(c *sock.Config)
		want api.Errno
	}{
		{func(c *sock.Config) {}, api.OK},
		{func(c *sock.Config) { c.Conn.SrcPort, c.Conn.DstPort, c.Conn.ISS = 7, 7, 7 }, api.OK},
		{func(c *sock.Config) { c.Conn.MSS = 0 }, api.ErrConfig},
		{func(c *sock.Config) { c.Conn.Kind = 5 }, api.ErrConfig},
		{func(c *sock.Config) { c.Most = 0 }, api.ErrConfig},
		{func(c *sock.Config) { c.Most = -1 }, api.ErrConfig},
		{func(c *sock.Config) { c.Most = 1 }, api.OK},
		{func(c *sock.Config) { c.Most = 256 }, api.OK},
		{func(c *sock.Config) { c.Most = 257 }, api.ErrConfig},
		{func(c *sock.Config) { c.Draws = make([]uint32, 4096) }, api.OK},
		{func(c *sock.Config) { c.Draws = make([]uint32, 4097) }, api.ErrConfig},
		{func(c *sock.Config) { *c = sock.Config{} }, api.ErrConfig},
	} {
		c := changed(x.set)
		if e := sock.Check(c); e != x.want {
			t.Errorf("Check(%+v): %d; want %d", c, e, x.want)
		}
		if s, e := sock.New(c); e != x.want || (s == nil) != (e != api.OK) {
			t.Errorf("New(%+v): %d; want %d", c, e, x.want)
		}
	}
}

func TestNotMade(t *testing.T) {
	for _, s := range []*sock.Stack{nil, {}} {
		want := refused(t, api.ErrMade)
		want(s.Listen(1, 0))
		want(s.Accept(-1))
		want(s.Connect(1, 1, 1, -1))
		want(s.Write(-1, nil))
		b, e1 := s.Read(-1, -1)
		l, e2 := s.Out(-1)
		i, e3 := s.Info(-1)
		for n, e := range []api.Errno{e1, e2, e3, s.Shut(0), s.Close(0), s.Abort(0), s.Input(1, api.Tcp{}, true, -1), s.Tick(-1)} {
			if e != api.ErrMade {
				t.Errorf("call %d: %d", n, e)
			}
		}
		if b != nil || l != nil || i != (conn.Info{}) || s.Len() != 0 {
			t.Error("a stack that no New made tells something")
		}
	}
}

func TestNumbersP26_1(t *testing.T) {
	s := made(t, changed(func(c *sock.Config) { c.Draws = []uint32{5, 1 << 31} }))
	number(t, 0)(s.Listen(80, 1))
	number(t, 1)(s.Connect(peer, 9, 1, 0))
	if e := s.Close(0); e != api.OK {
		t.Fatal("Close:", e)
	}
	number(t, 2)(s.Listen(80, 2))
	in(t, s, syn(5, 80))
	number(t, 3)(s.Connect(peer, 9, 2, 0))
	in(t, s, syn(6, 80))
	// The first sequence numbers: by Draws, and behind them by a rule.
	var got []uint32
	for _, p := range out(t, s, 0) {
		got = append(got, p.Seg.Seq)
	}
	same(t, "first numbers", got, []uint32{5, 1 << 31, 200001, 300001})
	s.Close(1)
	refused(t, api.ErrSock)(s.Accept(1))
	number(t, 4)(s.Listen(81, 1)) // never given twice
}

func TestListenP26_2(t *testing.T) {
	s := made(t, config())
	for _, backlog := range []int{0, -1, 257, math.MaxInt, math.MinInt} {
		refused(t, api.ErrRange)(s.Listen(80, backlog))
	}
	number(t, 0)(s.Listen(80, 1))
	refused(t, api.ErrInUse)(s.Listen(80, 1))
	refused(t, api.ErrRange)(s.Listen(80, 0))
	number(t, 1)(s.Listen(0, 256))
	number(t, 2)(s.Listen(65535, 1))
	number(t, 3)(s.Listen(81, 1))
	refused(t, api.ErrFull)(s.Listen(82, 1))
	refused(t, api.ErrInUse)(s.Listen(81, 1))
	s.Close(3)
	number(t, 4)(s.Listen(81, 1))
}

func TestAcceptP26_2(t *testing.T) {
	s := made(t, config())
	number(t, 0)(s.Listen(80, 3))
	number(t, 1)(s.Connect(peer, 9, 9, 0))
	refused(t, api.ErrSock)(s.Accept(2))
	refused(t, api.ErrSock)(s.Accept(-1))
	refused(t, api.ErrState)(s.Accept(1))
	refused(t, api.ErrWait)(s.Accept(0))
	for _, from := range []uint16{1, 2, 3} {
		in(t, s, syn(from, 80))
	}
	refused(t, api.ErrWait)(s.Accept(0)) // none is established
	l := out(t, s, 0)
	for _, i := range []int{3, 1, 2} { // in another order than that in which they asked
		p := l[i].Seg
		in(t, s, api.Tcp{SrcPort: p.DstPort, DstPort: 80, Seq: 1001, Ack: p.Seq + 1, Flags: api.ACK, Window: 9, Data: []byte{byte(p.DstPort)}})
	}
	same(t, "Len", s.Len(), 4)
	accepted := func(id int, from byte) {
		t.Helper()
		number(t, id)(s.Accept(0))
		if b, e := s.Read(id, 9); e != api.OK || !bytes.Equal(b, []byte{from}) {
			t.Errorf("Read(%d): %v, %d; want %d", id, b, e, from)
		}
	}
	accepted(2, 3)
	accepted(3, 1)
	refused(t, api.ErrFull)(s.Accept(0))
	s.Close(1)
	accepted(4, 2)
	refused(t, api.ErrWait)(s.Accept(0)) // ahead of ErrFull
	// What was reset waits no more.
	s.Close(4)
	in(t, s, syn(7, 80))
	shake(t, s, 7, 80)
	in(t, s, api.Tcp{SrcPort: 7, DstPort: 80, Seq: 1001, Flags: api.RST})
	refused(t, api.ErrWait)(s.Accept(0))
}

func TestConnectP26_2(t *testing.T) {
	s := made(t, changed(func(c *sock.Config) { c.Most = 3 }))
	number(t, 0)(s.Connect(peer, 80, 1024, 5))
	refused(t, api.ErrOrder)(s.Connect(peer, 80, 1024, 4))
	refused(t, api.ErrOrder)(s.Connect(peer, 80, 1025, -1))
	refused(t, api.ErrOrder)(s.Connect(peer, 80, 1025, maxTick+1))
	refused(t, api.ErrInUse)(s.Connect(peer, 80, 1024, 5))
	number(t, 1)(s.Connect(peer+1, 80, 1024, 5))
	number(t, 2)(s.Connect(peer, 81, 1024, 5))
	refused(t, api.ErrFull)(s.Connect(peer, 80, 1025, 5))
	refused(t, api.ErrInUse)(s.Connect(peer, 80, 1024, 100))
	same(t, "Len", s.Len(), 3)
	// A refused call is no earlier one.
	if e := s.Tick(6); e != api.OK {
		t.Error("Tick:", e)
	}
	// A connection goes on when its number is gone.
	s.Close(0)
	refused(t, api.ErrInUse)(s.Connect(peer, 80, 1024, 6))
	number(t, 3)(s.Connect(peer, 80, 1025, 6))
	for _, now := range []int{5, -1, maxTick + 1, math.MinInt} {
		_, e := s.Out(now)
		if e != api.ErrOrder || s.Tick(now) != api.ErrOrder || s.Input(peer, syn(1, 1), true, now) != api.ErrOrder {
			t.Errorf("no ErrOrder at %d", now)
		}
	}
}

func TestErrSockAndState(t *testing.T) {
	s := made(t, config())
	number(t, 0)(s.Listen(80, 1))
	for id, want := range map[int]api.Errno{0: api.ErrState, 1: api.ErrSock, -1: api.ErrSock, math.MaxInt: api.ErrSock} {
		n, e1 := s.Write(id, nil)
		b, e2 := s.Read(id, -1)
		i, e3 := s.Info(id)
		for k, e := range []api.Errno{e1, e2, e3, s.Shut(id), s.Abort(id)} {
			if e != want {
				t.Errorf("call %d of the number %d: %d; want %d", k, id, e, want)
			}
		}
		if n != 0 || b != nil || i != (conn.Info{}) {
			t.Error("beside an error something is told")
		}
		if id != 0 {
			same(t, "Close", s.Close(id), api.ErrSock)
		}
	}
}

// accepted is a stack with a connection of the number 1, from the port 5 of a
// peer to the port 80.
func accepted(t *testing.T, c sock.Config) *sock.Stack {
	t.Helper()
	s := made(t, c)
	number(t, 0)(s.Listen(80, 2))
	in(t, s, syn(5, 80))
	shake(t, s, 5, 80)
	number(t, 1)(s.Accept(0))
	return s
}

func TestCallsP26_3(t *testing.T) {
	s := accepted(t, config())
	n, e := s.Write(1, make([]byte, 2000))
	same(t, "Write", []any{n, e}, []any{1000, api.OK})
	n, e = s.Write(1, []byte("x"))
	same(t, "Write", []any{n, e}, []any{0, api.ErrWait})
	b, e := s.Read(1, -1)
	same(t, "Read", []any{len(b), e}, []any{0, api.ErrRange})
	b, e = s.Read(1, 1)
	same(t, "Read", []any{len(b), e}, []any{0, api.ErrWait})
	i, e := s.Info(1)
	if e != api.OK || i.State != 3 || i.Free != 0 {
		t.Errorf("Info: %+v, %d", i, e)
	}
	same(t, "Shut", s.Shut(1), api.OK)
	same(t, "Shut", s.Shut(1), api.ErrClosed)
	n, e = s.Write(1, []byte("x"))
	same(t, "Write", []any{n, e}, []any{0, api.ErrClosed})
	same(t, "Abort", s.Abort(1), api.OK)
	same(t, "Abort", s.Abort(1), api.ErrClosed)
	l := out(t, s, 0)
	if len(l) != 1 || l[0].Seg.Flags != api.RST || l[0].Peer != peer {
		t.Errorf("Out: %+v", l)
	}
	// A number names what is over till it is closed.
	same(t, "Len", s.Len(), 1)
	i, e = s.Info(1)
	same(t, "Info", []any{i.State, i.Err, e}, []any{0, api.ErrClosed, api.OK})
	same(t, "Input", s.Input(peer, api.Tcp{SrcPort: 5, DstPort: 80, Flags: api.ACK}, false, 0), api.ErrClosed)
	same(t, "Close", s.Close(1), api.OK)
	same(t, "Len", s.Len(), 0)
	same(t, "Close", s.Close(1), api.ErrSock)
}

func TestGrowsP26_3(t *testing.T) {
	window := func(s *sock.Stack) int {
		l := out(t, s, 0)
		return int(l[len(l)-1].Seg.Window)
	}
	s := accepted(t, changed(func(c *sock.Config) { c.Conn.Recv = 100 }))
	seq := uint32(1001)
	give := func(n int) {
		t.Helper()
		in(t, s, api.Tcp{SrcPort: 5, DstPort: 80, Seq: seq, Ack: 2, Flags: api.ACK, Data: make([]byte, n)})
		seq += uint32(n)
	}
	give(60)
	s.Read(1, 60)
	same(t, "Window", window(s), 100)
	give(50)
	s.Read(1, 39)
	same(t, "Window", window(s), 89)
	s.Read(1, 1)
	give(1)
	same(t, "Window", window(s), 189) // 200, less 11 that are not read
	s.Read(1, 100)
	give(89)
	s.Read(1, 100) // the 200th
	give(1)
	same(t, "Window", window(s), 399)
	// It is held at MaxBuffer.
	s = accepted(t, changed(func(c *sock.Config) { c.Conn.Recv = 600000 }))
	seq = 1001
	for range 20 {
		give(60000)
		if b, e := s.Read(1, 60000); len(b) != 60000 || e != api.OK {
			t.Fatalf("Read: %d octets, %d", len(b), e)
		}
	}
	if b, e := s.Read(1, 1); len(b) != 0 || e != api.ErrWait {
		t.Errorf("Read: %v, %d", b, e)
	}
}

func TestCloseP26_3(t *testing.T) {
	// Of one that listens: those that wait are aborted.
	s := made(t, config())
	number(t, 0)(s.Listen(80, 3))
	for _, from := range []uint16{1, 2} {
		in(t, s, syn(from, 80))
		shake(t, s, from, 80)
	}
	in(t, s, syn(3, 80))
	number(t, 1)(s.Accept(0))
	out(t, s, 0)
	same(t, "Len", s.Len(), 3)
	same(t, "Close", s.Close(0), api.OK)
	same(t, "Len", s.Len(), 1)
	want := []sock.Packet{
		{Peer: peer, Seg: api.Tcp{SrcPort: 80, DstPort: 2, Seq: 100002, Flags: api.RST}},
		{Peer: peer, Seg: api.Tcp{SrcPort: 80, DstPort: 3, Seq: 200002, Flags: api.RST}}}
	same(t, "Out", out(t, s, 0), want)
	same(t, "Out", len(out(t, s, 0)), 0)
	in(t, s, syn(4, 80)) // nobody listens
	if l := out(t, s, 0); len(l) != 1 || l[0].Seg.Flags != api.RST|api.ACK {
		t.Errorf("Out: %+v", l)
	}
	refused(t, api.ErrSock)(s.Accept(0))
	if i, e := s.Info(1); i.State != 3 || e != api.OK {
		t.Errorf("Info: %+v, %d", i, e)
	}

	// Of a connection: what was written goes, and FIN; it goes on till it is over.
	s = accepted(t, config())
	s.Write(1, []byte("last words"))
	same(t, "Close", s.Close(1), api.OK)
	if _, e := s.Read(1, 1); e != api.ErrSock {
		t.Error("Read:", e)
	}
	l := out(t, s, 0)
	if len(l) != 1 || string(l[0].Seg.Data) != "last words" || l[0].Seg.Flags != api.ACK|api.FIN {
		t.Errorf("Out: %+v", l)
	}
	same(t, "Len", s.Len(), 1)
	// More comes than there is room for: nobody reads it, yet it comes to its end.
	seq := uint32(1001)
	for range 5 {
		in(t, s, api.Tcp{SrcPort: 5, DstPort: 80, Seq: seq, Ack: 13, Flags: api.ACK, Window: 5000, Data: make([]byte, 700)})
		seq += 700
		if l := out(t, s, 0); len(l) != 1 || l[0].Seg.Ack != seq || l[0].Seg.Window != 1000 {
			t.Errorf("Out: %+v", l)
		}
	}
	in(t, s, api.Tcp{SrcPort: 5, DstPort: 80, Seq: seq, Ack: 13, Flags: api.ACK | api.FIN})
	s.Tick(999)
	same(t, "Len", s.Len(), 1) // time-wait
	s.Tick(1000)
	same(t, "Len", s.Len(), 0)

	// Where the peer shut ahead, its last ACK is the end.
	s = accepted(t, config())
	in(t, s, api.Tcp{SrcPort: 5, DstPort: 80, Seq: 1001, Ack: 2, Flags: api.ACK | api.FIN})
	s.Close(1)
	out(t, s, 0)
	in(t, s, api.Tcp{SrcPort: 5, DstPort: 80, Seq: 1002, Ack: 3, Flags: api.ACK})
	same(t, "Len", s.Len(), 0)
	// An RST that was due is told though the connection is gone.
	s = accepted(t, config())
	s.Abort(1)
	s.Close(1)
	same(t, "Len", s.Len(), 0)
	same(t, "Out", out(t, s, 0), []sock.Packet{{Peer: peer, Seg: api.Tcp{SrcPort: 80, DstPort: 5, Seq: 2, Flags: api.RST}}})
	// And one that is shut already is closed, too.
	s = accepted(t, config())
	s.Shut(1)
	same(t, "Close", s.Close(1), api.OK)
}

// TestGone: what no number names any more, and is over, is gone; what one names
// stays.
func TestGone(t *testing.T) {
	s := accepted(t, config())
	in(t, s, api.Tcp{SrcPort: 5, DstPort: 80, Seq: 1001, Flags: api.RST})
	same(t, "Len", s.Len(), 1)
	i, e := s.Info(1)
	same(t, "Info", []any{i.State, i.Err, e}, []any{0, api.ErrReset, api.OK})
	s.Close(1)
	same(t, "Len", s.Len(), 0)
	in(t, s, api.Tcp{SrcPort: 5, DstPort: 80, Seq: 1001, Ack: 9, Flags: api.ACK})
	if l := out(t, s, 0); len(l) != 1 || l[0].Seg.Flags != api.RST || l[0].Seg.Seq != 9 {
		t.Errorf("Out: %+v", l)
	}
	in(t, s, syn(5, 80)) // the same ports again
	same(t, "Len", s.Len(), 1)
	shake(t, s, 5, 80)
	number(t, 2)(s.Accept(0))

	// What was not read when it was closed makes room.
	in(t, s, api.Tcp{SrcPort: 5, DstPort: 80, Seq: 1001, Ack: 100002, Flags: api.ACK, Data: make([]byte, 1000)})
	if l := out(t, s, 0); len(l) != 1 || l[0].Seg.Window != 0 {
		t.Errorf("Out: %+v", l)
	}
	s.Close(2)
	if l := out(t, s, 0); len(l) == 0 || l[0].Seg.Window != 1000 {
		t.Errorf("Out: %+v", l)
	}
}

func TestTimeP26_2(t *testing.T) {
	for what, call := range map[string]func(s *sock.Stack) api.Errno{
		"Connect": func(s *sock.Stack) api.Errno { _, e := s.Connect(3, 80, 1, 50); return e },
		"Input":   func(s *sock.Stack) api.Errno { return s.Input(peer, syn(6, 9), false, 50) },
		"its own": func(s *sock.Stack) api.Errno {
			return s.Input(peer, api.Tcp{SrcPort: 5, DstPort: 80, Seq: 1001, Ack: 2, Flags: api.ACK}, false, 50)
		},
		"Tick": func(s *sock.Stack) api.Errno { return s.Tick(50) },
		"Out":  func(s *sock.Stack) api.Errno { _, e := s.Out(50); return e },
	} {
		s := accepted(t, config())
		if e := call(s); e != api.OK {
			t.Errorf("%s: %d", what, e)
		}
		if e := s.Tick(49); e != api.ErrOrder {
			t.Errorf("Tick behind %s: %d", what, e)
		}
		if e := s.Tick(maxTick); e != api.OK {
			t.Errorf("Tick at the end: %d", e)
		}
		if e := s.Tick(maxTick + 1); e != api.ErrOrder {
			t.Errorf("Tick behind it: %d", e)
		}
	}
	// What a connection refuses is no earlier call.
	s := accepted(t, config())
	s.Abort(1)
	same(t, "Input", s.Input(peer, api.Tcp{SrcPort: 5, DstPort: 80}, false, 50), api.ErrClosed)
	same(t, "Tick", s.Tick(49), api.OK)
}

func TestBacklogP26_4(t *testing.T) {
	s := made(t, changed(func(c *sock.Config) { c.Most = 2 }))
	number(t, 0)(s.Listen(80, 2))
	for _, from := range []uint16{1, 2, 3} {
		in(t, s, syn(from, 80))
	}
	same(t, "Len", s.Len(), 2)
	l := out(t, s, 0)
	if len(l) != 2 || l[0].Seg.DstPort != 1 || l[1].Seg.DstPort != 2 {
		t.Errorf("Out: %+v", l) // the third one is told nothing
	}
	in(t, s, api.Tcp{SrcPort: 1, DstPort: 80, Seq: 1001, Ack: 2, Flags: api.ACK})
	in(t, s, syn(3, 80))
	same(t, "Len", s.Len(), 2) // established ones wait, too
	number(t, 1)(s.Accept(0))
	in(t, s, syn(3, 80))
	same(t, "Len", s.Len(), 3)
	// Fewer than 2 Most connections.
	s = made(t, changed(func(c *sock.Config) { c.Most = 2 }))
	number(t, 0)(s.Listen(80, 256))
	for from := range uint16(6) {
		in(t, s, syn(from, 80))
	}
	same(t, "Len", s.Len(), 4)
	same(t, "Out", len(out(t, s, 0)), 4)
}

func TestResetsP26_4(t *testing.T) {
	s := accepted(t, config())
	for _, x := range []struct {
		seg   api.Tcp
		flags byte
		seq   uint32
		ack   uint32
	}{
		{api.Tcp{Flags: api.SYN, Seq: 10}, api.RST | api.ACK, 0, 11},
		{api.Tcp{Flags: api.SYN | api.FIN, Seq: 10, Data: []byte("abc")}, api.RST | api.ACK, 0, 15},
		{api.Tcp{Flags: 0, Seq: math.MaxUint32, Data: []byte("abc")}, api.RST | api.ACK, 0, 2},
		{api.Tcp{Flags: api.ACK, Seq: 10, Ack: 99}, api.RST, 99, 0},
		{api.Tcp{Flags: api.SYN | api.ACK, Seq: 10, Ack: 99}, api.RST, 99, 0},
		{api.Tcp{Flags: api.FIN | api.ACK, Seq: 10, Ack: 99}, api.RST, 99, 0},
	} {
		x.seg.SrcPort, x.seg.DstPort = 5, 81
		in(t, s, x.seg)
		want := []sock.Packet{{Peer: peer, Seg: api.Tcp{SrcPort: 81, DstPort: 5, Seq: x.seq, Ack: x.ack, Flags: x.flags}}}
		same(t, "Out", out(t, s, 0), want)
	}
	for _, flags := range []byte{api.RST, api.RST | api.ACK, api.RST | api.SYN} {
		in(t, s, api.Tcp{SrcPort: 5, DstPort: 81, Flags: flags})
		in(t, s, api.Tcp{SrcPort: 6, DstPort: 80, Flags: flags})
	}
	same(t, "an RST is not answered", len(out(t, s, 0)), 0)
	// Where one listens all but a SYN alone is answered by an RST.
	for _, flags := range []byte{api.ACK, api.SYN | api.ACK, api.SYN | api.FIN, api.FIN, 0} {
		in(t, s, api.Tcp{SrcPort: 6, DstPort: 80, Flags: flags, Ack: 9})
		if l := out(t, s, 0); len(l) != 1 || l[0].Seg.Flags&api.RST == 0 {
			t.Errorf("flags %d: %+v", flags, l)
		}
	}
	// Another peer's segment is not this connection's.
	if e := s.Input(peer+1, api.Tcp{SrcPort: 5, DstPort: 80, Seq: 1001, Ack: 2, Flags: api.ACK, Data: []byte("x")}, false, 0); e != api.OK {
		t.Error("Input:", e)
	}
	if b, e := s.Read(1, 1); len(b) != 0 || e != api.ErrWait {
		t.Errorf("Read: %q, %d", b, e)
	}
	if l := out(t, s, 0); len(l) != 1 || l[0].Peer != peer+1 {
		t.Errorf("Out: %+v", l)
	}
}

func TestOutP26_4(t *testing.T) {
	s := made(t, changed(func(c *sock.Config) { c.Conn.Kind, c.Conn.Script = 4, []int{500, 7} }))
	number(t, 0)(s.Connect(3, 80, 1, 0))
	number(t, 1)(s.Listen(80, 3))
	in(t, s, syn(9, 80))
	number(t, 2)(s.Connect(2, 80, 1, 0))
	in(t, s, syn(9, 99)) // nobody listens
	type line struct {
		peer  uint32
		flags byte
		rate  int
	}
	var got []line
	for _, p := range out(t, s, 0) {
		got = append(got, line{p.Peer, p.Seg.Flags &^ (api.ECE | api.CWR), p.Rate})
	}
	same(t, "Out", got, []line{{peer, api.RST | api.ACK, 0}, {3, api.SYN, 7}, {peer, api.SYN | api.ACK, 7}, {2, api.SYN, 7}})
	s.Tick(49)
	same(t, "Out", len(out(t, s, 49)), 0)
	s.Tick(50)
	same(t, "Out", len(out(t, s, 50)), 3) // all of them ask again
	for now := 51; now < 1000; now++ {
		s.Tick(now)
	}
	same(t, "Len", s.Len(), 2) // the one that no number names is given up, and gone
	if _, e := s.Read(0, 1); e != api.ErrTimeout {
		t.Error("Read:", e)
	}
	// A mark goes on to its connection.
	s = made(t, config())
	number(t, 0)(s.Listen(80, 3))
	x := syn(5, 80)
	x.Flags |= api.ECE | api.CWR
	in(t, s, x)
	out(t, s, 0)
	s.Input(peer, api.Tcp{SrcPort: 5, DstPort: 80, Seq: 1001, Ack: 2, Flags: api.ACK, Data: []byte("x")}, true, 0)
	if l := out(t, s, 0); len(l) != 1 || l[0].Seg.Flags != api.ACK|api.ECE {
		t.Errorf("Out: %+v", l)
	}
}

func TestMemoryP26_7(t *testing.T) {
	c := changed(func(c *sock.Config) {
		c.Draws = []uint32{7, 8}
		c.Conn.Kind, c.Conn.Script = 4, []int{500, 7}
	})
	s := made(t, c)
	c.Draws[0], c.Conn.Script[1] = 9, 9
	number(t, 0)(s.Connect(3, 80, 1, 0))
	l := out(t, s, 0)
	same(t, "Out", []any{l[0].Seg.Seq, l[0].Rate}, []any{uint32(7), 7})
	s = accepted(t, config())
	b := []byte("words")
	s.Write(1, b)
	b[0] = 'x'
	l = out(t, s, 0)
	same(t, "Data", string(l[0].Seg.Data), "words")
	l[0].Seg.Data[0] = 'y'
	s.Tick(10)
	same(t, "Data", string(out(t, s, 10)[0].Seg.Data), "words")
	seg := api.Tcp{SrcPort: 5, DstPort: 80, Seq: 1001, Ack: 2, Flags: api.ACK, Data: []byte("abc")}
	s.Input(peer, seg, false, 10)
	seg.Data[0] = 'z'
	got, _ := s.Read(1, 9)
	same(t, "Read", string(got), "abc")
}

// TestBeginningP26_5: two stacks, eight connections, six segments lost.
func TestBeginningP26_5(t *testing.T) {
	for seed := range int64(200) {
		r := rand.New(rand.NewSource(seed))
		c := config()
		c.Most, c.Conn.MSL, c.Conn.Tries, c.Conn.Kind = 20, 2000, 16, 1+r.Intn(4)
		c.Conn.MSS = []int{50, 100, 1000}[r.Intn(3)]
		c.Conn.Send, c.Conn.Recv = []int{100, 1000, 65536}[r.Intn(3)], []int{100, 1000, 65536}[r.Intn(3)]
		c.Conn.Script = []int{r.Intn(3000), 0, r.Intn(3000), 0}
		p := newPair(t, r, c, 8, 1501)
		p.bad, p.often = 6, 1+r.Intn(40)
		for p.now = 0; p.now < 3000 && !p.isOver(); p.now++ {
			p.tick()
		}
		if !p.isOver() {
			t.Fatalf("seed %d: not all is read", seed)
		}
	}
}

// TestFullP26_6: more ask than there is room for; those that are taken hear
// what is theirs.
func TestFullP26_6(t *testing.T) {
	for seed := range int64(50) {
		r := rand.New(rand.NewSource(seed))
		c := config()
		c.Most, c.Conn.Tries, c.Conn.Kind = 9, 16, 1+r.Intn(4)
		p := newPair(t, r, c, 8, 600)
		p.backlog = 3
		p.bad, p.often = 20, 8
		for p.now = 0; p.now < 4000 && !p.isOver(); p.now++ {
			p.tick()
		}
		if !p.isOver() {
			t.Fatalf("seed %d: not all is read", seed)
		}
	}
}

// post is a packet on its way.
type post struct {
	at, to int
	seg    api.Tcp
}

// pair is two stacks, of the addresses 1 and 2; the second one listens.
type pair struct {
	t       *testing.T
	r       *rand.Rand
	ends    [2]*sock.Stack
	net     []post
	now     int
	bad     int
	often   int
	backlog int
	texts   [2][][]byte // of each end's connections, to be written
	wrote   [2][]int
	got     [2][][]byte
	socks   [2][]int
	names   []int // of those of the second end: which of the first one's they are
}

func newPair(t *testing.T, r *rand.Rand, c sock.Config, count, size int) *pair {
	p := &pair{t: t, r: r, backlog: count}
	for i := range p.ends {
		c.IP = uint32(1 + i)
		p.ends[i] = made(t, c)
		p.wrote[i] = make([]int, count)
		p.got[i] = make([][]byte, count)
		for range count {
			b := make([]byte, size)
			r.Read(b)
			p.texts[i] = append(p.texts[i], b)
		}
	}
	for k := range count {
		id, e := p.ends[0].Connect(2, 80, uint16(100+k), 0)
		if e != api.OK {
			t.Fatalf("Connect: %d", e)
		}
		p.socks[0] = append(p.socks[0], id)
		p.texts[0][k][0] = byte(k) // so that it is known who wrote it
	}
	return p
}

func (p *pair) tick() {
	if p.now == 0 {
		number(p.t, 0)(p.ends[1].Listen(80, p.backlog))
	}
	var rest []post
	for _, x := range p.net {
		if x.at > p.now {
			rest = append(rest, x)
		} else if e := p.ends[x.to].Input(uint32(2-x.to), x.seg, false, p.now); e != api.OK && e != api.ErrClosed {
			p.t.Fatalf("Input: %d", e)
		}
	}
	p.net = rest
	if id, e := p.ends[1].Accept(0); e == api.OK {
		p.socks[1] = append(p.socks[1], id)
		p.names = append(p.names, -1)
	}
	for i, s := range p.ends {
		s.Tick(p.now)
		for k, id := range p.socks[i] {
			p.serve(i, k, id)
		}
		for _, x := range out(p.t, s, p.now) {
			if x.Peer != uint32(2-i) {
				p.t.Fatalf("a packet for %d", x.Peer)
			}
			if p.bad > 0 && p.r.Intn(p.often) == 0 {
				p.bad--
				continue
			}
			p.net = append(p.net, post{p.now + 1, 1 - i, x.Seg})
		}
	}
}

// serve writes and reads at one socket.
func (p *pair) serve(i, k, id int) {
	s := p.ends[i]
	b, e := s.Read(id, 1+p.r.Intn(500))
	if e != api.OK && e != api.ErrWait && e != api.ErrClosed {
		p.t.Fatalf("Read: %d", e)
	}
	which := k
	if i == 1 {
		if p.names[k] < 0 && len(b) > 0 {
			p.names[k] = int(b[0])
		}
		which = p.names[k]
		if which < 0 {
			return
		}
	}
	p.got[i][which] = append(p.got[i][which], b...)
	text := p.texts[1-i][which]
	if !bytes.HasPrefix(text, p.got[i][which]) || e == api.ErrClosed && len(p.got[i][which]) < len(text) {
		p.t.Fatal("what was read is no beginning of what was written")
	}
	if p.wrote[i][which] < len(p.texts[i][which]) {
		n, _ := s.Write(id, p.texts[i][which][p.wrote[i][which]:])
		p.wrote[i][which] += n
		return
	}
	s.Shut(id)
}

func (p *pair) isOver() bool {
	for i := range p.ends {
		for k, b := range p.got[i] {
			if !bytes.Equal(b, p.texts[1-i][k]) {
				return false
			}
		}
	}
	return true
}
