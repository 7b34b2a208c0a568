package rings_test

import (
	"bytes"
	"encoding/binary"
	"math"
	"math/rand"
	"slices"
	"testing"

	"stopcock/api"
	"stopcock/rings"
	"stopcock/toeplitz"
)

// config gives settings whose table leaves the queue 0 to what has no ports.
func config() rings.Config {
	r := rand.New(rand.NewSource(1))
	c := rings.Config{Key: make([]byte, 40), Table: make([]int, 128), Size: 4, Every: 10}
	r.Read(c.Key)
	for i := range c.Table {
		c.Table[i] = 1 + r.Intn(15)
	}
	return c
}

func with(size, every int) rings.Config {
	c := config()
	c.Size, c.Every = size, every
	return c
}

func card(t testing.TB, c rings.Config) *rings.Card {
	t.Helper()
	x, e := rings.New(c)
	if e != api.OK || x == nil {
		t.Fatal("New:", e)
	}
	return x
}

// packet is what a frame is laid from, without the program.
type packet struct {
	kind     uint16 // Ethernet's Type
	options  int    // octets
	fragment uint16 // the flags, and Offset / 8
	proto    byte
	src, dst uint32
	data     []byte
	behind   []byte // behind the packet, in the frame
}

func tcp(src, dst uint32, srcPort, dstPort uint16) packet {
	data := binary.BigEndian.AppendUint16(nil, srcPort)
	data = binary.BigEndian.AppendUint16(data, dstPort)
	return packet{kind: 2048, proto: 6, src: src, dst: dst, data: append(data, make([]byte, 16)...)}
}

// seal lays the checksum of an IPv4 header.
func seal(head []byte) {
	head[10], head[11] = 0, 0
	sum := 0
	for i := 0; i < len(head); i += 2 {
		sum += int(head[i])<<8 + int(head[i+1])
	}
	for sum > 65535 {
		sum = sum>>16 + sum&65535
	}
	binary.BigEndian.PutUint16(head[10:], uint16(65535-sum))
}

func (p packet) frame() []byte {
	head := make([]byte, 20+p.options)
	head[0] = byte(64 + len(head)/4)
	binary.BigEndian.PutUint16(head[2:], uint16(len(head)+len(p.data)))
	binary.BigEndian.PutUint16(head[6:], p.fragment)
	head[8], head[9] = 64, p.proto
	binary.BigEndian.PutUint32(head[12:], p.src)
	binary.BigEndian.PutUint32(head[16:], p.dst)
	for i := range p.options {
		head[20+i] = byte(i + 1)
	}
	seal(head)
	b := []byte{2, 0, 0, 0, 0, 1, 2, 0, 0, 0, 0, 2}
	b = binary.BigEndian.AppendUint16(b, p.kind)
	return slices.Concat(b, head, p.data, p.behind)
}

// queue is where a packet with ports comes to.
func (p packet) queue(t testing.TB, c rings.Config) int {
	t.Helper()
	b := binary.BigEndian.AppendUint32(nil, p.src)
	b = binary.BigEndian.AppendUint32(b, p.dst)
	b = append(b, p.data[:4]...)
	hash, e := toeplitz.Hash(c.Key, b)
	if e != api.OK {
		t.Fatal("Hash:", e)
	}
	return c.Table[hash%128]
}

// steered holds Steer, and Receive of a fresh card, against a queue.
func steered(t *testing.T, what string, frame []byte, want int) {
	t.Helper()
	if got, e := rings.Steer(config(), frame); got != want || e != api.OK {
		t.Errorf("%s: Steer = %d, %d; want %d", what, got, e, want)
	}
	if len(frame) > 65535 {
		return
	}
	x := card(t, config())
	if got, e := x.Receive(frame); got != want || e != api.OK {
		t.Errorf("%s: Receive = %d, %d; want %d", what, got, e, want)
	}
	for queue := range 16 {
		n := 0
		if queue == want {
			n = 1
		}
		if x.Len(queue) != n {
			t.Errorf("%s: Len(%d) = %d; want %d", what, queue, x.Len(queue), n)
		}
	}
	if got, ok := x.Take(want); !ok || !bytes.Equal(got, frame) {
		t.Errorf("%s: Take = %d octets, %v", what, len(got), ok)
	}
}

func TestExample(t *testing.T) {
	x := card(t, with(1, 10))
	if queue, e := x.Receive([]byte("one")); queue != 0 || e != api.OK {
		t.Error("Receive:", queue, e)
	}
	if queue, e := x.Receive([]byte("two")); queue != 0 || e != api.ErrFull {
		t.Error("Receive:", queue, e)
	}
	x = card(t, with(2, 10))
	x.Send([]byte("one"))
	x.Send([]byte("two"))
	if b, ok, e := x.Emit(0); string(b) != "one" || !ok || e != api.OK {
		t.Error("Emit(0):", b, ok, e)
	}
	if b, ok, e := x.Emit(9); len(b) != 0 || ok || e != api.OK {
		t.Error("Emit(9):", b, ok, e)
	}
	if b, ok, e := x.Emit(10); string(b) != "two" || !ok || e != api.OK {
		t.Error("Emit(10):", b, ok, e)
	}
}

func TestCheckP8_1(t *testing.T) {
	checked := func(what string, change func(c *rings.Config), want api.Errno) {
		t.Helper()
		c := config()
		change(&c)
		if e := rings.Check(c); e != want {
			t.Errorf("%s: Check = %d; want %d", what, e, want)
		}
		x, e := rings.New(c)
		if e != want || (x == nil) != (want != api.OK) {
			t.Errorf("%s: New = %v, %d; want %d", what, x != nil, e, want)
		}
		queue, e := rings.Steer(c, tcp(1, 2, 3, 4).frame())
		if e != want || e != api.OK && queue != 0 {
			t.Errorf("%s: Steer = %d, %d; want %d", what, queue, e, want)
		}
	}
	checked("as it is", func(c *rings.Config) {}, api.OK)
	for _, n := range []int{1, 2, 4095, 4096} {
		checked("Size", func(c *rings.Config) { c.Size = n }, api.OK)
	}
	for _, n := range []int{1, 2, 1<<20 - 1, 1 << 20} {
		checked("Every", func(c *rings.Config) { c.Every = n }, api.OK)
	}
	for _, n := range []int{0, -1, 4097, math.MinInt, math.MaxInt} {
		checked("Size", func(c *rings.Config) { c.Size = n }, api.ErrConfig)
	}
	for _, n := range []int{0, -1, 1<<20 + 1, math.MinInt, math.MaxInt} {
		checked("Every", func(c *rings.Config) { c.Every = n }, api.ErrConfig)
	}
	checked("no key", func(c *rings.Config) { c.Key = nil }, api.ErrCount)
	checked("a long key, no size", func(c *rings.Config) { c.Key, c.Size = make([]byte, 41), 0 }, api.ErrCount)
	checked("a short table", func(c *rings.Config) { c.Table = c.Table[1:] }, api.ErrCount)
	checked("no shard, no size", func(c *rings.Config) { c.Table[5], c.Size = 16, 0 }, api.ErrRange)
	checked("no shard, no every", func(c *rings.Config) { c.Table[127], c.Every = -1, 0 }, api.ErrRange)
	checked("nothing", func(c *rings.Config) { *c = rings.Config{} }, api.ErrCount)
}

func TestNewP8_1(t *testing.T) {
	x := card(t, with(3, 5))
	for queue := -1; queue <= 16; queue++ {
		if x.Len(queue) != 0 {
			t.Error("Len:", queue, x.Len(queue))
		}
		if b, ok := x.Take(queue); len(b) != 0 || ok {
			t.Error("Take:", queue, b, ok)
		}
	}
	if b, ok, e := x.Emit(0); len(b) != 0 || ok || e != api.OK || x.Waiting() != 0 {
		t.Error("Emit, Waiting:", b, ok, e, x.Waiting())
	}
}

// Each queue holds Size frames, whatever the others hold.
func TestSizeP8_1(t *testing.T) {
	for _, size := range []int{1, 2, 7, 4096} {
		c := with(size, 1)
		x := card(t, c)
		frames := frameOfEach(t, c)
		for queue, frame := range frames {
			for range size {
				if got, e := x.Receive(frame); got != queue || e != api.OK {
					t.Fatal("Receive:", got, e)
				}
			}
			if got, e := x.Receive(frame); got != queue || e != api.ErrFull {
				t.Errorf("Receive of one more than %d: %d, %d", size, got, e)
			}
		}
		for i := range size {
			if e := x.Send(nil); e != api.OK {
				t.Fatal("Send:", i, e)
			}
		}
		if e := x.Send(nil); e != api.ErrFull || x.Waiting() != size {
			t.Errorf("Send of one more than %d: %d; %d wait", size, e, x.Waiting())
		}
		for queue := range frames {
			if x.Len(queue) != size {
				t.Errorf("Len(%d) = %d; want %d", queue, x.Len(queue), size)
			}
		}
	}
}

// frameOfEach gives for each queue a frame that comes to it.
func frameOfEach(t *testing.T, c rings.Config) [][]byte {
	t.Helper()
	frames := make([][]byte, 16)
	frames[0] = []byte("no frame at all")
	for port := uint16(0); slices.ContainsFunc(frames, func(b []byte) bool { return b == nil }); port++ {
		p := tcp(1, 2, 3, port)
		frames[p.queue(t, c)] = p.frame()
	}
	return frames
}

func TestSteerP8_1(t *testing.T) {
	r := rand.New(rand.NewSource(2))
	for range 300 {
		p := tcp(r.Uint32(), r.Uint32(), uint16(r.Intn(65536)), uint16(r.Intn(65536)))
		p.options = 4 * r.Intn(11)
		p.data = p.data[:4+r.Intn(17)]
		p.behind = make([]byte, r.Intn(30))
		if r.Intn(2) == 0 {
			p.fragment = 1 << 14 // DF is no fragment's
		}
		steered(t, "TCP", p.frame(), p.queue(t, config()))
	}
	p := tcp(0x01020304, 0x05060708, 80, 40000)
	want := p.queue(t, config())
	p.fragment = 1 << 15 // that bit is not looked at
	steered(t, "bit 15", p.frame(), want)
	p.fragment, p.data = 0, p.data[:4]
	steered(t, "4 octets", p.frame(), want)
	p.data = append(p.data, make([]byte, 65000)...)
	steered(t, "many octets", p.frame(), want)
}

func TestSteerElseP8_1(t *testing.T) {
	whole := tcp(0x01020304, 0x05060708, 80, 40000)
	frame := whole.frame()
	for n := range 14 + 20 + 4 {
		p := whole
		p.data = whole.data[:4]
		steered(t, "a part of a frame", p.frame()[:n], 0)
	}
	other := func(what string, change func(p *packet)) {
		t.Helper()
		p := whole
		change(&p)
		steered(t, what, p.frame(), 0)
	}
	for _, kind := range []uint16{0, 8, 1500, 2047, 2049, 2054, 0x86dd, 65535} {
		other("another Type", func(p *packet) { p.kind = kind })
	}
	for _, proto := range []byte{0, 1, 5, 7, 17, 58, 255} {
		other("another Proto", func(p *packet) { p.proto = proto })
	}
	for _, fragment := range []uint16{1 << 13, 1, 185, 1<<13 - 1, 1<<13 | 1, 1<<14 | 1<<13, 1<<14 | 1, 1<<15 | 1<<13} {
		other("a fragment", func(p *packet) { p.fragment = fragment })
	}
	for n := range 4 {
		other("few octets of Data", func(p *packet) { p.data = p.data[:n] })
		other("few octets of Data, and some behind", func(p *packet) { p.data, p.behind = p.data[:n], p.data[n:] })
	}
	broken := func(what string, at int, x byte) {
		t.Helper()
		b := bytes.Clone(frame)
		b[at] ^= x
		steered(t, what, b, 0)
	}
	broken("another checksum", 14+10, 1)
	broken("another TTL", 14+8, 1)
	broken("another version", 14, 0x20)
	broken("a short header", 14, 1)
	broken("a longer packet than its frame", 14+2, 1)
	steered(t, "none", nil, 0)
	steered(t, "zeros", make([]byte, 60), 0)
	long := whole
	long.behind = make([]byte, 65536-len(frame))
	steered(t, "more than MaxData", long.frame(), 0)
	long.behind = long.behind[1:]
	steered(t, "MaxData", long.frame(), whole.queue(t, config()))
}

func TestReceiveP8_2(t *testing.T) {
	c := with(3, 1)
	x := card(t, c)
	p := tcp(1, 2, 3, 4)
	want := p.queue(t, c)
	for i := range 3 {
		p.behind = []byte{byte(i)}
		if queue, e := x.Receive(p.frame()); queue != want || e != api.OK || x.Len(want) != i+1 {
			t.Error("Receive:", queue, e, x.Len(want))
		}
	}
	p.behind = []byte("lost")
	if queue, e := x.Receive(p.frame()); queue != want || e != api.ErrFull || x.Len(want) != 3 {
		t.Error("Receive of one more:", queue, e, x.Len(want))
	}
	if queue, e := x.Receive(make([]byte, 65536)); queue != 0 || e != api.ErrLong {
		t.Error("a long one:", queue, e)
	}
	for i := range 3 {
		p.behind = []byte{byte(i)}
		if b, ok := x.Take(want); !ok || !bytes.Equal(b, p.frame()) || x.Len(want) != 2-i {
			t.Error("Take:", b, ok, x.Len(want))
		}
	}
	if b, ok := x.Take(want); len(b) != 0 || ok {
		t.Error("Take of none:", b, ok)
	}
	if queue, e := x.Receive(nil); queue != 0 || e != api.OK || x.Len(0) != 1 {
		t.Error("an empty frame:", queue, e, x.Len(0))
	}
	if b, ok := x.Take(0); len(b) != 0 || !ok || x.Len(0) != 0 {
		t.Error("Take of an empty one:", b, ok)
	}
}

func TestReceiveLongP8_2(t *testing.T) {
	x := card(t, with(1, 1))
	if queue, e := x.Receive(make([]byte, 65535)); queue != 0 || e != api.OK {
		t.Error("MaxData:", queue, e)
	}
	if queue, e := x.Receive(make([]byte, 65536)); queue != 0 || e != api.ErrLong {
		t.Error("ErrLong goes ahead of ErrFull:", queue, e)
	}
	if b, ok := x.Take(0); len(b) != 65535 || !ok {
		t.Error("Take:", len(b), ok)
	}
}

func TestNoQueueP8_2(t *testing.T) {
	x := card(t, config())
	x.Receive([]byte("one"))
	for _, queue := range []int{-1, 16, 17, math.MinInt, math.MaxInt, 1 << 32} {
		if b, ok := x.Take(queue); len(b) != 0 || ok {
			t.Error("Take:", queue, b, ok)
		}
		if n := x.Len(queue); n != 0 {
			t.Error("Len:", queue, n)
		}
	}
	if x.Len(0) != 1 || x.Len(1) != 0 {
		t.Error("Len:", x.Len(0), x.Len(1))
	}
}

func TestSendP8_3(t *testing.T) {
	x := card(t, with(2, 1))
	if e := x.Send(make([]byte, 65536)); e != api.ErrLong || x.Waiting() != 0 {
		t.Error("a long one:", e)
	}
	if e := x.Send(make([]byte, 65535)); e != api.OK || x.Waiting() != 1 {
		t.Error("MaxData:", e)
	}
	if e := x.Send(nil); e != api.OK || x.Waiting() != 2 {
		t.Error("an empty one:", e)
	}
	if e := x.Send([]byte("lost")); e != api.ErrFull || x.Waiting() != 2 {
		t.Error("one more:", e)
	}
	if e := x.Send(make([]byte, 65536)); e != api.ErrLong {
		t.Error("ErrLong goes ahead of ErrFull:", e)
	}
	if b, ok, e := x.Emit(5); len(b) != 65535 || !ok || e != api.OK || x.Waiting() != 1 {
		t.Error("Emit:", len(b), ok, e)
	}
	if b, ok, e := x.Emit(6); len(b) != 0 || !ok || e != api.OK || x.Waiting() != 0 {
		t.Error("Emit of an empty one:", b, ok, e)
	}
	if b, ok, e := x.Emit(7); len(b) != 0 || ok || e != api.OK {
		t.Error("Emit of none:", b, ok, e)
	}
	for i := range 16 {
		if x.Len(i) != 0 {
			t.Error("what is sent came in:", i)
		}
	}
}

func TestEmitOrderP8_3(t *testing.T) {
	x := card(t, with(4, 10))
	x.Send([]byte("one"))
	refused := func(now int) {
		t.Helper()
		if b, ok, e := x.Emit(now); len(b) != 0 || ok || e != api.ErrOrder {
			t.Errorf("Emit(%d): %v, %v, %d; want ErrOrder", now, b, ok, e)
		}
	}
	refused(-1)
	refused(math.MinInt)
	refused(1<<40 + 1)
	refused(math.MaxInt)
	if b, ok, e := x.Emit(0); string(b) != "one" || !ok || e != api.OK {
		t.Error("Emit(0):", b, ok, e)
	}
	x.Send([]byte("two"))
	if _, ok, e := x.Emit(7); ok || e != api.OK {
		t.Error("Emit(7):", ok, e)
	}
	refused(6) // one that told none is an earlier one too
	if _, ok, e := x.Emit(7); ok || e != api.OK {
		t.Error("Emit(7) again:", ok, e)
	}
	if b, ok, e := x.Emit(1 << 40); string(b) != "two" || !ok || e != api.OK {
		t.Error("Emit(MaxTick):", b, ok, e)
	}
	refused(1<<40 + 1)
	refused(1<<40 - 1)
	x.Send([]byte("three"))
	if _, ok, e := x.Emit(1 << 40); ok || e != api.OK {
		t.Error("Emit(MaxTick) again:", ok, e)
	}
	x = card(t, with(4, 10))
	x.Emit(30) // with nothing that waits
	refused(29)
	x.Send([]byte("one"))
	if b, ok, e := x.Emit(30); string(b) != "one" || !ok || e != api.OK {
		t.Error("Emit(30):", b, ok, e)
	}
}

// A frame may leave Every ticks behind the last one that left, wherever the others were asked for.
func TestEmitEveryP8_3(t *testing.T) {
	for _, every := range []int{1, 2, 10, 1 << 20} {
		x := card(t, with(4, every))
		for range 4 {
			x.Send([]byte("x"))
		}
		for _, step := range []struct {
			now  int
			left bool
		}{{3, true}, {3, false}, {2 + every, false}, {3 + every, true}, {3 + 5*every, true}, {2 + 6*every, false}, {4 + 6*every, true}, {4 + 9*every, false}} {
			if _, ok, e := x.Emit(step.now); ok != step.left || e != api.OK {
				t.Errorf("Every %d, Emit(%d): %v, %d; want %v", every, step.now, ok, e, step.left)
			}
		}
	}
}

func TestNotMadeP8_3(t *testing.T) {
	for _, x := range []*rings.Card{nil, {}} {
		for _, frame := range [][]byte{nil, []byte("x"), make([]byte, 65536)} {
			if queue, e := x.Receive(frame); queue != 0 || e != api.ErrMade {
				t.Error("Receive:", queue, e)
			}
			if e := x.Send(frame); e != api.ErrMade {
				t.Error("Send:", e)
			}
		}
		for _, n := range []int{0, 1, 16, -1, math.MaxInt} {
			if b, ok := x.Take(n); len(b) != 0 || ok {
				t.Error("Take:", b, ok)
			}
			if x.Len(n) != 0 {
				t.Error("Len:", x.Len(n))
			}
			if b, ok, e := x.Emit(n); len(b) != 0 || ok || e != api.ErrMade {
				t.Error("Emit:", b, ok, e)
			}
		}
		if x.Waiting() != 0 {
			t.Error("Waiting:", x.Waiting())
		}
	}
}

// model is a card without rings.
type model struct {
	c       rings.Config
	queues  [16][][]byte
	sending [][]byte
	now     int
	left    int
}

func (m *model) emit(now int) ([]byte, bool, api.Errno) {
	if now < m.now || now > 1<<40 {
		return nil, false, api.ErrOrder
	}
	m.now = now
	if len(m.sending) == 0 || now-m.left < m.c.Every {
		return nil, false, api.OK
	}
	b := m.sending[0]
	m.sending, m.left = m.sending[1:], now
	return b, true, api.OK
}

func TestModelP8_4(t *testing.T) {
	for seed := range 60 {
		r := rand.New(rand.NewSource(int64(seed)))
		c := with(1+r.Intn(6), 1+r.Intn(20))
		x, m := card(t, c), &model{c: c, left: -1 << 30}
		for i := range 500 {
			p := tcp(1, 2, 3, uint16(r.Intn(20)))
			p.behind = binary.BigEndian.AppendUint16(nil, uint16(i))
			want := p.queue(t, c)
			switch r.Intn(5) {
			case 0, 1:
				queue, e := x.Receive(p.frame())
				if full := len(m.queues[want]) == c.Size; queue != want || full != (e == api.ErrFull) || !full && e != api.OK {
					t.Fatalf("Receive = %d, %d; %d of %d wait", queue, e, len(m.queues[want]), c.Size)
				}
				if e == api.OK {
					m.queues[want] = append(m.queues[want], p.frame())
				}
			case 2:
				b, ok := x.Take(want)
				if ok != (len(m.queues[want]) > 0) || ok && !bytes.Equal(b, m.queues[want][0]) {
					t.Fatalf("Take = %x, %v", b, ok)
				}
				if ok {
					m.queues[want] = m.queues[want][1:]
				}
			case 3:
				e := x.Send(p.frame())
				if full := len(m.sending) == c.Size; full != (e == api.ErrFull) || !full && e != api.OK {
					t.Fatalf("Send = %d; %d of %d wait", e, len(m.sending), c.Size)
				}
				if e == api.OK {
					m.sending = append(m.sending, p.frame())
				}
			case 4:
				now := m.now + r.Intn(30) - 3
				b, ok, e := x.Emit(now)
				wb, wok, we := m.emit(now)
				if !bytes.Equal(b, wb) || ok != wok || e != we {
					t.Fatalf("Emit(%d) = %x, %v, %d; want %x, %v, %d", now, b, ok, e, wb, wok, we)
				}
			}
			if x.Len(want) != len(m.queues[want]) || x.Waiting() != len(m.sending) {
				t.Fatalf("Len, Waiting = %d, %d; want %d, %d", x.Len(want), x.Waiting(), len(m.queues[want]), len(m.sending))
			}
		}
	}
}

// All frames of one direction of a connection come into one ring, in order.
func TestOneRingP8_4(t *testing.T) {
	r := rand.New(rand.NewSource(9))
	c := with(4096, 1)
	for range 30 {
		x := card(t, c)
		p := tcp(r.Uint32(), r.Uint32(), uint16(r.Intn(65536)), uint16(r.Intn(65536)))
		ports := bytes.Clone(p.data[:4])
		queue := p.queue(t, c)
		var sent [][]byte
		for range 50 {
			p.data = append(bytes.Clone(ports), make([]byte, r.Intn(60))...)
			r.Read(p.data[4:])
			p.options, p.behind = 4*r.Intn(11), make([]byte, r.Intn(9))
			sent = append(sent, p.frame())
			if got, e := x.Receive(sent[len(sent)-1]); got != queue || e != api.OK {
				t.Fatal("Receive:", got, e)
			}
			noise := tcp(r.Uint32(), 5, 6, 7)
			if noise.queue(t, c) != queue {
				x.Receive(noise.frame())
			}
		}
		for _, want := range sent {
			if b, ok := x.Take(queue); !ok || !bytes.Equal(b, want) {
				t.Fatal("Take:", ok)
			}
		}
	}
}

func TestAtMostOneP8_5(t *testing.T) {
	r := rand.New(rand.NewSource(10))
	for range 50 {
		every := 1 + r.Intn(50)
		x := card(t, with(64, every))
		last, now := -every, 0
		for range 400 {
			x.Send([]byte("x"))
			now += r.Intn(every/2 + 2)
			_, ok, e := x.Emit(now)
			if e != api.OK {
				t.Fatal("Emit:", e)
			}
			if ok != (now-last >= every) {
				t.Fatalf("Every %d: left %v at %d behind %d", every, ok, now, last)
			}
			if ok {
				last = now
			}
		}
	}
}

func TestRefusedP4(t *testing.T) {
	c := with(1, 10)
	x := card(t, c)
	p := tcp(1, 2, 3, 4)
	x.Receive(p.frame())
	x.Receive([]byte("first"))
	x.Receive([]byte("second"))
	x.Receive(make([]byte, 65536))
	x.Send([]byte("first"))
	x.Send([]byte("second"))
	x.Send(make([]byte, 65536))
	x.Emit(1<<40 + 1)
	x.Emit(-1)
	if b, ok := x.Take(0); string(b) != "first" || !ok || x.Len(0) != 0 {
		t.Error("Take:", b, ok)
	}
	if x.Len(p.queue(t, c)) != 1 {
		t.Error("Len:", x.Len(p.queue(t, c)))
	}
	if b, ok, e := x.Emit(3); string(b) != "first" || !ok || e != api.OK || x.Waiting() != 0 {
		t.Error("Emit:", b, ok, e)
	}
}

func TestMemoryP8_6(t *testing.T) {
	c := with(2, 1)
	key, table := bytes.Clone(c.Key), slices.Clone(c.Table)
	x := card(t, c)
	p := tcp(1, 2, 3, 4)
	want := p.queue(t, c)
	frame := p.frame()
	x.Receive(frame)
	x.Send(frame)
	rings.Steer(c, frame)
	rings.Check(c)
	if !bytes.Equal(frame, p.frame()) || !bytes.Equal(c.Key, key) || !slices.Equal(c.Table, table) {
		t.Error("an argument was changed")
	}
	clear(frame)
	clear(c.Key)
	clear(c.Table)
	if queue, e := x.Receive(p.frame()); queue != want || e != api.OK {
		t.Error("the settings that were handed in are kept:", queue, e)
	}
	one, _ := x.Take(want)
	two, _, _ := x.Emit(0)
	if !bytes.Equal(one, p.frame()) || !bytes.Equal(two, p.frame()) {
		t.Error("a frame that was handed in is kept")
	}
	x.Send(p.frame())
	for _, b := range [][]byte{one, two} {
		for i := range b[:cap(b)] {
			b[:cap(b)][i] = 255
		}
	}
	three, _ := x.Take(want)
	four, _, _ := x.Emit(1)
	if !bytes.Equal(three, p.frame()) || !bytes.Equal(four, p.frame()) {
		t.Error("an answer shares memory with what waits")
	}
}

func FuzzSteer(f *testing.F) {
	f.Add(tcp(1, 2, 3, 4).frame())
	f.Add([]byte{})
	f.Fuzz(func(t *testing.T, frame []byte) {
		c := config()
		queue, e := rings.Steer(c, frame)
		if e != api.OK || queue < 0 || queue > 15 {
			t.Fatal(queue, e)
		}
		if queue != 0 {
			head := 14 + 4*int(frame[14]&15)
			hash, _ := toeplitz.Hash(c.Key, slices.Concat(frame[26:34], frame[head:head+4]))
			if queue != c.Table[hash%128] {
				t.Fatal("another queue:", queue)
			}
		}
		if len(frame) > 65535 {
			return
		}
		x, _ := rings.New(c)
		if got, e := x.Receive(frame); got != queue || e != api.OK {
			t.Fatal("Receive:", got, e)
		}
		if b, ok := x.Take(queue); !ok || !bytes.Equal(b, frame) {
			t.Fatal("Take:", ok)
		}
	})
}
