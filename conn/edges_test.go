package conn_test

import (
	"strings"
	"testing"

	"stopcock/api"
	"stopcock/conn"
	"stopcock/prr"
	"stopcock/rtt"
)

// asked is an end that opened, and told its SYN.
func asked(t *testing.T, c conn.Config, now int) *hand {
	t.Helper()
	x, e := conn.Open(c, now)
	if e != api.OK {
		t.Fatalf("Open: %d", e)
	}
	h := &hand{Conn: x, t: t, seq: irs + 1, win: 60000, now: now}
	h.out()
	return h
}

// synAck is what a peer answers that has all options.
func synAck(data string) api.Tcp {
	return api.Tcp{Seq: irs, Ack: iss + 1, Flags: api.SYN | api.ACK, Window: 500, MSS: 100, HasScale: true, Scale: 3, SackOK: true,
		HasTS: true, TSVal: 100, Data: []byte(data)}
}

func kind(n int) conn.Config {
	return changed(func(c *conn.Config) { c.Kind = n })
}

func (h *hand) isAt(want int) {
	h.t.Helper()
	if at, ok := h.Next(); at != want || !ok {
		h.t.Errorf("Next: %d, %v; want %d", at, ok, want)
	}
}

func (h *hand) rests() {
	h.t.Helper()
	if at, ok := h.Next(); at != 0 || ok {
		h.t.Errorf("Next: %d, %v; want none", at, ok)
	}
}

func TestHandshakeEdges(t *testing.T) {
	h := asked(t, config(), 0)
	same(t, "RcvNxt", h.Info().RcvNxt, uint32(0))
	h.in(synAck("hi")) // its window is not scaled; its octets are taken
	same(t, "Edge", h.Info().Edge, uint32(iss+501))
	same(t, "RcvNxt", h.Info().RcvNxt, uint32(irs+3))
	if b, _ := h.Read(9); string(b) != "hi" {
		t.Errorf("Read: %q", b)
	}
	h.seq += 2
	h.ack(iss + 1)
	same(t, "Edge", h.Info().Edge, uint32(iss+480001))

	// The peer's stamp ahead of the first answer: what is in order tells the time.
	for seq, want := range map[uint32]uint32{irs + 1: 150, irs + 2: 100, irs: 100} {
		h = asked(t, config(), 0)
		h.in(synAck(""))
		s := h.seg(api.ACK, iss+1, "abc")
		s.Seq, s.HasTS, s.TSVal = seq, true, 150
		h.in(s)
		if l := h.out(); len(l) != 1 || l[0].TSEcr != want && seq != irs {
			t.Errorf("an octet at %d: %+v; want TSEcr %d", seq, l, want)
		}
	}

	// Time ran out, yet the answer is there ahead of the next Out.
	x, _ := conn.Accept(config(), syn(), 0)
	h = &hand{Conn: x, t: t, seq: irs + 1, win: 1000}
	h.out()
	h.next(50)
	h.ack(iss + 1)
	h.silent("it is established")

	// Octets with an ACK that may not be: an RST alone.
	x, _ = conn.Accept(config(), syn(), 0)
	h = &hand{Conn: x, t: t, seq: irs + 1, win: 1000}
	h.out()
	h.in(h.seg(api.ACK, iss, "abc"))
	same(t, "Out", h.out(), []api.Tcp{{SrcPort: 1000, DstPort: 2000, Seq: iss, Flags: api.RST}})
	same(t, "Ready", h.Info().Ready, 0)

	// An MSS of 1 is one.
	s := syn()
	s.MSS = 1
	h = openBy(t, config(), s)
	h.write(2)
	h.tells([2]uint32{iss + 1, iss + 2}, [2]uint32{iss + 2, iss + 3})
}

func TestTimeIsKept(t *testing.T) {
	h := open(t, config())
	h.now = 50
	h.ack(iss + 1)
	if e := h.Tick(49); e != api.ErrOrder {
		t.Error("Tick behind an Input:", e)
	}
	h.now = 60
	h.out()
	if e := h.Tick(59); e != api.ErrOrder {
		t.Error("Tick behind an Out:", e)
	}
	// The timer is known at once, whatever was called.
	h.rests()
	h.write(100)
	h.rests()
	h.out()
	h.isAt(70)
	h.now = 65
	h.ack(iss + 51)
	h.isAt(75)
	h.ack(iss + 101)
	h.rests()
	h = openShut(t)
	h.rests()
	h.write(1)
	h.isAt(10)
	h.win = 5
	h.ack(iss + 1)
	h.rests() // it may be sent
	same(t, "Asleep", h.Info().Asleep, false)
	h = openShut(t)
	h.Shut()
	h.isAt(10)
	// One octet, or FIN, is not asleep.
	h = open(t, config())
	h.write(1)
	same(t, "Asleep", h.Info().Asleep, false)
	h = open(t, config())
	h.Shut()
	same(t, "Asleep", h.Info().Asleep, false)
	// Behind time-wait nothing is left.
	h.out()
	h.in(h.seg(api.ACK|api.FIN, iss+2, ""))
	h.seq++
	h.answers("FIN")
	h.next(1000)
	h.silent("it is over")
	same(t, "Asleep", h.Info().Asleep, true)
	h.rests()
}

func TestGrowOpens(t *testing.T) {
	h := open(t, changed(func(c *conn.Config) { c.Recv = 3 }))
	h.in(h.seg(api.ACK, iss+1, "abc"))
	h.seq += 3
	same(t, "Window", h.out()[0].Window, uint16(0))
	h.Grow(3)
	h.silent("no room more")
	h.Grow(10)
	if l := h.out(); len(l) != 1 || l[0].Window != 7 {
		t.Errorf("Out: %+v", l)
	}
	h.Grow(20)
	h.silent("the window was open")
}

func TestReceiveEdges(t *testing.T) {
	// A segment longer than any on the wire: what one may have is taken.
	big := func(n int) *hand {
		h := open(t, changed(func(c *conn.Config) { c.Recv = 200000 }))
		h.in(h.seg(api.ACK|api.FIN, iss+1, strings.Repeat("x", n)))
		return h
	}
	h := big(65535)
	same(t, "Ready", h.Info().Ready, 65535)
	h.state(6)
	h = big(65536)
	same(t, "Ready", h.Info().Ready, 65535)
	h.state(3)

	// FIN just behind the window is taken, one further off is not.
	h = open(t, changed(func(c *conn.Config) { c.Recv = 10 }))
	h.in(h.seg(api.ACK|api.FIN, iss+1, "0123456789"))
	h.state(6)
	h = open(t, changed(func(c *conn.Config) { c.Recv = 10 }))
	h.in(h.seg(api.ACK|api.FIN, iss+1, "0123456789a"))
	h.state(3)
	same(t, "Ready", h.Info().Ready, 10)

	// Behind FIN there is nothing, though it is not yet in order.
	h = open(t, config())
	s := h.seg(api.ACK|api.FIN, iss+1, "fgh")
	s.Seq += 5
	h.in(s)
	h.in(h.seg(api.ACK, iss+1, "abcdefghijkl"))
	h.state(6)
	same(t, "RcvNxt", h.Info().RcvNxt, uint32(irs+10))
	if b, _ := h.Read(99); string(b) != "abcdefgh" {
		t.Errorf("Read: %q", b)
	}
	// Another FIN says nothing.
	h = open(t, config())
	h.in(s)
	s.Seq += 3
	h.in(s)
	s.Seq -= 4
	h.in(s)
	h.in(h.seg(api.ACK, iss+1, "abcde"))
	h.state(6)
	same(t, "RcvNxt", h.Info().RcvNxt, uint32(irs+10))

	// The last ACK with octets that nobody waits for: the end, and no answer.
	h = open(t, config())
	h.in(h.seg(api.ACK|api.FIN, iss+1, ""))
	h.seq++
	h.Shut()
	h.out()
	h.in(h.seg(api.ACK, iss+2, "more"))
	h.state(0)
	h.silent("it is over")
}

func TestControllerEdges(t *testing.T) {
	// FIN is no octet to the controller.
	h := open(t, kind(1))
	h.write(50)
	h.Shut()
	h.out()
	h.ack(iss + 52)
	same(t, "Window", h.Info().Window, 1050)
	h = open(t, kind(1))
	h.write(50)
	h.out()
	h.ack(iss + 51)
	h.Shut()
	h.out()
	h.ack(iss + 52)
	same(t, "Window", h.Info().Window, 1050)

	// Without ECE no loss is told.
	s := syn()
	s.Flags |= api.ECE | api.CWR
	h = openBy(t, kind(1), s)
	h.write(100)
	h.out()
	h.ack(iss + 101)
	same(t, "Window", h.Info().Window, 1100)

	// What comes while a loss is mended opens no window.
	h = open(t, kind(1))
	h.write(3000)
	h.out()
	h.ack(iss+1, api.Block{Left: iss + 101, Right: iss + 401})
	same(t, "Window", h.Info().Window, 500)
	h.out()
	h.ack(iss + 901)
	if i := h.Info(); !i.Mending || i.Window != 500 {
		t.Errorf("Info: %+v", i)
	}
	h.ack(iss + 1001)
	if i := h.Info(); i.Mending || i.Window != 500 {
		t.Errorf("Info: %+v", i)
	}

	// When a loss is found, what is sent again has all its time.
	h = open(t, kind(1))
	h.write(1000)
	h.out()
	h.isAt(10)
	h.pass(8)
	h.ack(iss+1, api.Block{Left: iss + 101, Right: iss + 401})
	h.isAt(8 + h.Info().Rto)
}

func TestTimeoutEdges(t *testing.T) {
	// Time that runs out ends the mending; till all has come that was on its way
	// then no loss is found anew.
	h := open(t, changed(func(c *conn.Config) { c.Script = []int{1000, 0} }))
	h.write(2000)
	h.out()
	h.ack(iss+1, api.Block{Left: iss + 101, Right: iss + 401})
	same(t, "Mending", h.Info().Mending, true)
	h.out()
	at, _ := h.Next()
	h.pass(at)
	if i := h.Info(); i.Mending || i.Pipe != 0 {
		t.Errorf("Info: %+v", i)
	}
	if l := h.out(); len(l) != 10 || l[0].Seq != iss+1 || l[9].Seq != iss+901 {
		t.Errorf("Out: %+v", l)
	}
	h.ack(iss+1, api.Block{Left: iss + 101, Right: iss + 601})
	same(t, "Mending", h.Info().Mending, false)
	h.out()
	h.ack(h.Info().Nxt)
	h.write(1000)
	h.out()
	una := h.Info().Una
	h.ack(una, api.Block{Left: una + 100, Right: una + 400})
	same(t, "Mending", h.Info().Mending, true)
}

func TestProbeEdges(t *testing.T) {
	probed := func() *hand {
		h := openShut(t)
		h.write(300)
		h.next(10)
		h.tells([2]uint32{iss + 1, iss + 2})
		same(t, "Pipe", h.Info().Pipe, 1)
		return h
	}
	// An answer breaks the row: so often time runs out again till it is given up.
	h := probed()
	h.next(30)
	h.out()
	h.ack(iss + 1)
	for range 3 {
		at, _ := h.Next()
		h.pass(at)
		same(t, "Pipe", h.Info().Pipe, 0)
		h.out()
		h.state(3)
	}
	at, _ := h.Next()
	h.pass(at)
	h.state(0)

	// It opens: times are as they were ahead of it, and what is told meanwhile
	// lies behind all that was sent.
	h = probed()
	for range 3 {
		at, _ := h.Next()
		h.pass(at)
		h.out()
		h.ack(iss + 1)
	}
	same(t, "Rto", h.Info().Rto, 160)
	h.win = 200
	h.ack(iss + 1)
	same(t, "Rto", h.Info().Rto, 10)
	h.isAt(h.now + 10)
	h.out()
	h.isAt(h.now + 10)
	h.in(h.seg(api.ACK, iss+1, "x"))
	h.seq++
	h.answers("octets")
	// Likewise where the octet was taken.
	h = probed()
	h.win = 200
	h.ack(iss + 2)
	h.tells([2]uint32{iss + 2, iss + 102}, [2]uint32{iss + 102, iss + 202})
	h.in(h.seg(api.ACK, iss+2, "x"))
	h.seq++
	h.answers("octets")

	// Where the peer waits is told by what it said last.
	h = probed()
	s := h.seg(api.ACK, iss+2, "")
	s.Seq--
	h.in(s)
	h.in(h.seg(api.ACK, iss+1, "x"))
	h.seq++
	if l := h.out(); len(l) != 1 || l[0].Seq != iss+1 {
		t.Errorf("Out: %+v", l)
	}
	s.Flags = 0 // no ACK
	h.in(s)
	if l := h.out(); len(l) != 1 || l[0].Seq != iss+1 {
		t.Errorf("Out: %+v", l)
	}
}

func TestCwrEdges(t *testing.T) {
	s := syn()
	s.Flags |= api.ECE | api.CWR
	h := openBy(t, kind(1), s)
	h.write(100)
	h.out()
	h.in(h.seg(api.ACK|api.ECE, iss+51, ""))
	h.silent("nothing new")
	h.next(10)
	if l := h.out(); len(l) != 1 || l[0].Flags != api.ACK {
		t.Errorf("what is sent again tells no CWR: %+v", l)
	}
	h.write(1)
	if l := h.out(); len(l) != 1 || l[0].Flags != api.ACK|api.CWR {
		t.Errorf("new octets: %+v", l)
	}
	h.write(1)
	if l := h.out(); len(l) != 1 || l[0].Flags != api.ACK {
		t.Errorf("once: %+v", l)
	}
	h = openBy(t, kind(1), s)
	h.write(100)
	h.out()
	h.in(h.seg(api.ACK|api.ECE, iss+101, ""))
	h.Shut()
	if l := h.out(); len(l) != 1 || l[0].Flags != api.ACK|api.FIN {
		t.Errorf("FIN alone is no data: %+v", l)
	}
}

// TestPaceP25_4: PRR, reckoned a second time: the window stays 2000 and all but
// the last 300 of 2000 octets are lost.
func TestPaceP25_4(t *testing.T) {
	h := open(t, changed(func(c *conn.Config) { c.Script = []int{2000, 0} }))
	h.write(9000)
	h.out()
	pace, _ := prr.Start(2000, 2000)
	pipe := 0
	acked := func(n int, right uint32) {
		t.Helper()
		h.ack(iss+1, api.Block{Left: iss + 1701, Right: right})
		same(t, "Pipe", h.Info().Pipe, pipe)
		var want int
		pace, want, _ = prr.Ack(pace, n, pipe, 100)
		got := 0
		for _, s := range h.out() {
			got += len(s.Data)
		}
		same(t, "octets", got, want)
		h.silent("PRR")
		pace, _ = prr.Spent(pace, got)
		pipe += got
	}
	acked(300, iss+2001) // 400: it goes again from 1 on
	same(t, "pipe", pipe, 400)
	h.ack(iss+1, api.Block{Left: iss + 1701, Right: iss + 2001}) // nothing new
	var want int
	pace, want, _ = prr.Ack(pace, 0, pipe, 100)
	got := 0
	for _, s := range h.out() {
		got += len(s.Data)
	}
	same(t, "octets", got, want)
}

func TestSamples(t *testing.T) {
	quick := changed(func(c *conn.Config) { c.Rtt = rtt.Params{Init: 400, Min: 1, Max: 100000, Grain: 1} })
	var s rtt.State
	rto := func(h *hand, what string, samples ...int) {
		t.Helper()
		for _, r := range samples {
			s, _ = rtt.Sample(quick.Rtt, s, r)
		}
		want, _ := rtt.RTO(quick.Rtt, s)
		if got := h.Info().Rto; got != want {
			t.Errorf("%s: Rto %d; want %d", what, got, want)
		}
	}
	start := func() *hand {
		t.Helper()
		s = rtt.State{}
		h := asked(t, quick, 0)
		h.pass(40)
		h.in(api.Tcp{Seq: irs, Ack: iss + 1, Flags: api.SYN | api.ACK, Window: 60000, MSS: 100, SackOK: true})
		rto(h, "SYN", 40)
		return h
	}
	// The answer to several: by the last one that was sent.
	h := start()
	h.write(100)
	h.out()
	h.pass(60)
	h.write(100)
	h.out()
	h.pass(100)
	h.ack(iss + 201)
	rto(h, "two", 40)
	// Each tells it once: in a block, and not when it is acknowledged later.
	h = start()
	h.write(300)
	h.out()
	h.pass(90)
	h.ack(iss+1, api.Block{Left: iss + 101, Right: iss + 201})
	rto(h, "a block", 50)
	h.pass(95)
	h.ack(iss+1, api.Block{Left: iss + 101, Right: iss + 201})
	rto(h, "the block again")
	h.pass(100)
	h.ack(iss + 201)
	rto(h, "what was ahead of it", 60)
	h.ack(iss + 301)
	rto(h, "what was behind it", 60)
	// Of two blocks the second one.
	h = start()
	h.write(500)
	h.out()
	h.pass(90)
	h.ack(iss+1, api.Block{Left: iss + 101, Right: iss + 201})
	rto(h, "the first block", 50)
	h.pass(110)
	h.ack(iss+1, api.Block{Left: iss + 101, Right: iss + 201}, api.Block{Left: iss + 301, Right: iss + 401})
	rto(h, "the second block", 70)
	// A segment that came in part did not come.
	h = start()
	h.write(300)
	h.out()
	h.pass(90)
	h.ack(iss + 51)
	rto(h, "half of it")
	h.ack(iss+51, api.Block{Left: iss + 151, Right: iss + 201})
	rto(h, "half of another one")
	h.pass(95)
	h.ack(iss + 101)
	rto(h, "all of it", 55)
	// What was sent again tells nothing.
	h = start()
	h.write(200)
	h.out()
	at, _ := h.Next()
	h.pass(at)
	s, _ = rtt.Back(quick.Rtt, s)
	h.out()
	h.pass(at + 10)
	h.ack(iss + 101)
	rto(h, "again")
	// FIN alone is told like an octet.
	h = start()
	h.Shut()
	h.out()
	h.pass(77)
	h.ack(iss + 1)
	rto(h, "nothing new")
	h.pass(90)
	h.ack(iss + 2)
	rto(h, "FIN", 50)
}

// TestBbrRates: how fast octets come, as BBR hears of it.
func TestBbrRates(t *testing.T) {
	h := asked(t, kind(3), 0)
	h.pass(10)
	h.in(api.Tcp{Seq: irs, Ack: iss + 1, Flags: api.SYN | api.ACK, Window: 60000, MSS: 100, SackOK: true})
	same(t, "Rate", h.Rate(), 0)
	h.pass(500) // idle, which does not count
	h.write(1000)
	h.out()
	h.pass(508)
	h.ack(iss + 1001)
	rate := 1000 * 1024 / 8
	same(t, "Rate", h.Rate(), rate*739/256)
	// Two segments that left 6 ticks apart come together: by the last one 1000
	// octets came within 8 ticks.
	h.pass(1000)
	h.write(1000)
	h.out()
	h.pass(1006)
	h.write(1000)
	h.out()
	h.pass(1008)
	h.ack(iss + 3001)
	rate = 2000 * 1024 / 8
	same(t, "Rate", h.Rate(), rate*739/256)
}
