package ipnet_test

import (
	"bytes"
	"encoding/binary"
	"fmt"
	"math"
	"math/rand"
	"slices"
	"strings"
	"testing"

	"stopcock/api"
	"stopcock/ipnet"
)

const (
	maxTick = 1 << 40
	toAll   = 1<<48 - 1
	mac     = 0x020000000001 // of the host that is tested
	peerMac = 0x020000000002
)

var (
	me    = addr(10, 0, 0, 1)
	peer  = addr(10, 0, 0, 2)
	gate  = addr(10, 0, 0, 254)
	other = addr(8, 8, 8, 8)
)

func addr(a, b, c, d uint32) uint32 {
	return a<<24 | b<<16 | c<<8 | d
}

func config() ipnet.Config {
	return ipnet.Config{Mac: mac, IP: me, Bits: 24, Gateway: gate, MTU: 1500, Age: 1000, Again: 10, Patience: 100}
}

func withMTU(mtu int) ipnet.Config {
	c := config()
	c.MTU = mtu
	return c
}

func host(t testing.TB, c ipnet.Config) *ipnet.Host {
	t.Helper()
	h, e := ipnet.New(c)
	if e != api.OK || h == nil {
		t.Fatal("New:", e)
	}
	return h
}

// acquainted is a host that knows peer and gate, at the tick 0.
func acquainted(t testing.TB, c ipnet.Config) *ipnet.Host {
	t.Helper()
	h := host(t, c)
	for i, ip := range []uint32{peer, gate} {
		if _, e := h.Input(arp(c.Mac, peerMac+uint64(i), ip, c.IP, 2), 0); e != api.OK {
			t.Fatal("Input:", e)
		}
	}
	return h
}

// frame lays a frame without the program.
func frame(dst, src uint64, kind uint16, data []byte) []byte {
	b := binary.BigEndian.AppendUint64(nil, dst<<16)[:6]
	b = append(b, binary.BigEndian.AppendUint64(nil, src<<16)[:6]...)
	return append(binary.BigEndian.AppendUint16(b, kind), data...)
}

// arp lays an ARP, in a frame to dst.
func arp(dst, srcMac uint64, srcIP, dstIP uint32, op byte) []byte {
	dstMac := dst
	if op == 1 {
		dstMac = 0
	}
	b := []byte{0, 1, 8, 0, 6, 4, 0, op}
	b = append(b, binary.BigEndian.AppendUint64(nil, srcMac<<16)[:6]...)
	b = binary.BigEndian.AppendUint32(b, srcIP)
	b = append(b, binary.BigEndian.AppendUint64(nil, dstMac<<16)[:6]...)
	return frame(dst, srcMac, 2054, binary.BigEndian.AppendUint32(b, dstIP))
}

// seal lays a checksum at the place at, of all octets of b.
func seal(b []byte, at int) []byte {
	b[at], b[at+1] = 0, 0
	sum := 0
	for i, x := range b {
		sum += int(x) << (8 * (1 - i%2))
	}
	for sum > 65535 {
		sum = sum>>16 + sum&65535
	}
	binary.BigEndian.PutUint16(b[at:], uint16(65535-sum))
	return b
}

// datagram is what a packet is laid from, without the program.
type datagram struct {
	tos      byte
	id       uint16
	fragment uint16 // the flags, and Offset / 8
	ttl      byte
	proto    byte
	src, dst uint32
	options  []byte
	data     []byte
}

func (d datagram) packet() []byte {
	b := []byte{byte(64 + 5 + len(d.options)/4), d.tos}
	b = binary.BigEndian.AppendUint16(b, uint16(20+len(d.options)+len(d.data)))
	b = binary.BigEndian.AppendUint16(b, d.id)
	b = binary.BigEndian.AppendUint16(b, d.fragment)
	b = append(b, d.ttl, d.proto, 0, 0)
	b = binary.BigEndian.AppendUint32(b, d.src)
	b = binary.BigEndian.AppendUint32(b, d.dst)
	return append(seal(append(b, d.options...), 10), d.data...)
}

// in is the frame by which peer sends it.
func (d datagram) in() []byte {
	return frame(mac, peerMac, 2048, d.packet())
}

// out is the frame by which the host sends it to a neighbour.
func (d datagram) out(to uint64) []byte {
	return frame(to, mac, 2048, d.packet())
}

// from is a datagram that peer sends.
func from(proto byte, data []byte) datagram {
	return datagram{id: 77, ttl: 60, proto: proto, src: peer, dst: me, data: data}
}

// to is a datagram that the host sends.
func to(dst uint32, id uint16, proto byte, data []byte) datagram {
	return datagram{id: id, ttl: 64, proto: proto, src: me, dst: dst, data: data}
}

func icmp(kind, code byte, rest uint32, data []byte) []byte {
	b := binary.BigEndian.AppendUint32([]byte{kind, code, 0, 0}, rest)
	return seal(append(b, data...), 2)
}

func octets(n int) []byte {
	b := make([]byte, n)
	rand.New(rand.NewSource(int64(n))).Read(b)
	return b
}

// same holds an answer against frames, without anything for the layer above.
func same(t *testing.T, what string, out ipnet.Out, e, fault api.Errno, frames ...[]byte) {
	t.Helper()
	if e != fault || len(out.Got) != 0 || len(out.Frames) != len(frames) {
		t.Fatalf("%s: %d frames, %d got, %d; want %d frames, %d", what, len(out.Frames), len(out.Got), e, len(frames), fault)
	}
	for i, b := range frames {
		if !bytes.Equal(out.Frames[i], b) {
			t.Fatalf("%s: frame %d: %x; want %x", what, i, out.Frames[i], b)
		}
	}
}

func input(t *testing.T, h *ipnet.Host, b []byte, now int, fault api.Errno, frames ...[]byte) {
	t.Helper()
	out, e := h.Input(b, now)
	same(t, "Input", out, e, fault, frames...)
}

func output(t *testing.T, h *ipnet.Host, dst uint32, df bool, data []byte, now int, fault api.Errno, frames ...[]byte) {
	t.Helper()
	out, e := h.Output(dst, 6, 0, df, data, now)
	same(t, "Output", out, e, fault, frames...)
}

// got holds an Input against one datagram for the layer above.
func got(t *testing.T, h *ipnet.Host, b []byte, now int, want ipnet.Got) {
	t.Helper()
	out, e := h.Input(b, now)
	if e != api.OK || len(out.Frames) != 0 || len(out.Got) != 1 {
		t.Fatalf("Input: %d frames, %d got, %d; want one got", len(out.Frames), len(out.Got), e)
	}
	x := out.Got[0]
	if x.Proto != want.Proto || x.Src != want.Src || x.TOS != want.TOS || !bytes.Equal(x.Data, want.Data) {
		t.Fatalf("Input: got %v; want %v", x, want)
	}
}

func mtu(t *testing.T, h *ipnet.Host, dst uint32, want int) {
	t.Helper()
	if n := h.MTU(dst); n != want {
		t.Errorf("MTU(%x) = %d; want %d", dst, n, want)
	}
}

func TestExample(t *testing.T) {
	h := host(t, config())
	output(t, h, peer, false, []byte("hi"), 0, api.OK, arp(toAll, mac, me, peer, 1))
	input(t, h, arp(mac, peerMac, peer, me, 2), 1, api.OK, to(peer, 1, 6, []byte("hi")).out(peerMac))
	// Example 3 of the whole.
	h = acquainted(t, withMTU(68))
	out, e := h.Output(peer, 6, 0, false, octets(100), 0)
	if e != api.OK || len(out.Frames) != 3 {
		t.Fatal("Output:", len(out.Frames), e)
	}
	for i, n := range []int{48, 48, 4} {
		if len(out.Frames[i]) != 34+n {
			t.Errorf("fragment %d has %d octets; want %d", i, len(out.Frames[i])-34, n)
		}
	}
}

func TestCheckP11_1(t *testing.T) {
	checked := func(what string, change func(c *ipnet.Config), want api.Errno) {
		t.Helper()
		c := config()
		change(&c)
		if e := ipnet.Check(c); e != want {
			t.Errorf("%s: Check = %d; want %d", what, e, want)
		}
		h, e := ipnet.New(c)
		if e != want || (h == nil) != (e != api.OK) {
			t.Errorf("%s: New = %v, %d; want %d", what, h != nil, e, want)
		}
		if e == api.OK {
			mtu(t, h, 5, c.MTU)
		}
	}
	checked("as it is", func(c *ipnet.Config) {}, api.OK)
	checked("zero", func(c *ipnet.Config) { *c = ipnet.Config{} }, api.ErrConfig)
	for _, n := range []uint64{0, 1, 1<<48 - 2} {
		checked("Mac", func(c *ipnet.Config) { c.Mac = n }, api.OK)
	}
	for _, n := range []uint64{1<<48 - 1, 1 << 48, math.MaxUint64} {
		checked("Mac", func(c *ipnet.Config) { c.Mac = n }, api.ErrConfig)
	}
	for _, n := range []uint32{0, 1, math.MaxUint32} {
		checked("IP", func(c *ipnet.Config) { c.IP = n }, api.OK)
		checked("Gateway", func(c *ipnet.Config) { c.Gateway = n }, api.OK)
	}
	fields := []struct {
		what      string
		at        func(c *ipnet.Config) *int
		low, high int
	}{
		{"Bits", func(c *ipnet.Config) *int { return &c.Bits }, 0, 32},
		{"MTU", func(c *ipnet.Config) *int { return &c.MTU }, 68, 9000},
		{"Age", func(c *ipnet.Config) *int { return &c.Age }, 1, 1 << 30},
		{"Again", func(c *ipnet.Config) *int { return &c.Again }, 1, 1 << 30},
		{"Patience", func(c *ipnet.Config) *int { return &c.Patience }, 1, 1 << 30},
	}
	for _, f := range fields {
		for _, n := range []int{f.low, f.low + 1, f.high - 1, f.high} {
			checked(f.what, func(c *ipnet.Config) { *f.at(c) = n }, api.OK)
		}
		for _, n := range []int{f.low - 1, f.high + 1, -1, math.MinInt, math.MaxInt} {
			checked(f.what, func(c *ipnet.Config) { *f.at(c) = n }, api.ErrConfig)
		}
	}
}

func TestNotMadeP11_2(t *testing.T) {
	for _, h := range []*ipnet.Host{nil, {}} {
		for _, now := range []int{0, -1, maxTick + 1} {
			input(t, h, nil, now, api.ErrMade)
			input(t, h, from(6, nil).in(), now, api.ErrMade)
			output(t, h, 0, false, nil, now, api.ErrMade)
			output(t, h, peer, true, octets(65536), now, api.ErrMade)
		}
		mtu(t, h, 0, 0)
		mtu(t, h, peer, 0)
	}
}

func TestOrderP11_2(t *testing.T) {
	h := acquainted(t, config())
	for _, now := range []int{-1, math.MinInt, maxTick + 1, math.MaxInt} {
		output(t, h, peer, false, nil, now, api.ErrOrder)
		output(t, h, me, false, nil, now, api.ErrOrder)
		input(t, h, nil, now, api.ErrOrder)
		input(t, h, arp(mac, peerMac, peer, me, 1), now, api.ErrOrder)
	}
	output(t, h, peer, false, nil, maxTick, api.OK, arp(toAll, mac, me, peer, 1)) // by then it is too old
	output(t, h, peer, false, nil, maxTick-1, api.ErrOrder)
	input(t, h, nil, maxTick-1, api.ErrOrder)
	input(t, h, nil, maxTick, api.ErrShort)
}

// Each call that tells neither ErrMade nor ErrOrder is one at now, whatever it tells.
func TestCountsAsOneP11_2(t *testing.T) {
	calls := map[string]func(h *ipnet.Host, now int) api.Errno{}
	for what, dst := range map[string]uint32{"a neighbour": peer, "the gateway": other, "an unknown one": addr(10, 0, 0, 9), "itself": me} {
		for _, n := range []int{0, 1481, 65516} {
			calls[fmt.Sprint("Output of ", n, " to ", what)] = func(h *ipnet.Host, now int) api.Errno {
				_, e := h.Output(dst, 6, 0, true, octets(n), now)
				return e
			}
		}
	}
	broken := from(6, nil).in()
	broken[24] ^= 1
	for what, b := range map[string][]byte{
		"none": nil, "a long one": octets(65536), "another's": frame(9, 9, 2048, nil), "another Type": frame(mac, 9, 5, nil),
		"a short ARP": frame(mac, 9, 2054, nil), "another's ARP": arp(mac, 9, peer, other, 1), "an ARP": arp(mac, peerMac, peer, me, 1),
		"a short packet": frame(mac, 9, 2048, nil), "a broken packet": broken, "a datagram": from(6, nil).in(),
	} {
		calls["Input of "+what] = func(h *ipnet.Host, now int) api.Errno {
			_, e := h.Input(b, now)
			return e
		}
	}
	for what, call := range calls {
		h := acquainted(t, config())
		if e := call(h, 50); e == api.ErrOrder {
			t.Errorf("%s: ErrOrder", what)
		}
		input(t, h, nil, 49, api.ErrOrder)
		output(t, h, me, false, nil, 49, api.ErrOrder)
		output(t, h, me, false, nil, 50, api.ErrArg)
		if e := call(h, 51); e == api.ErrOrder {
			t.Errorf("%s: ErrOrder", what)
		}
		output(t, h, me, false, nil, 50, api.ErrOrder)
		input(t, h, nil, 50, api.ErrOrder)
		input(t, h, nil, 51, api.ErrShort)
	}
}

// The errors in their order, each beside all that come behind it.
func TestOutputErrorsP11_2(t *testing.T) {
	c := config()
	c.Gateway = 0
	h := acquainted(t, c)
	output(t, h, me, true, octets(65516), 0, api.ErrArg)
	output(t, h, other, true, octets(65516), 0, api.ErrRoute)
	output(t, h, peer, true, octets(65516), 0, api.ErrLong)
	output(t, h, peer, false, octets(65516), 0, api.ErrLong)
	output(t, h, peer, false, octets(1<<20), 0, api.ErrLong)
	output(t, h, peer, true, octets(65515), 0, api.ErrBig)
	output(t, h, peer, true, octets(1481), 0, api.ErrBig)
	// None of these used an ID.
	d := to(peer, 1, 6, octets(1480))
	d.fragment = 1 << 14
	output(t, h, peer, true, octets(1480), 0, api.OK, d.out(peerMac))
	// Its own IP is refused though it may be no neighbour.
	c.Bits = 0
	h = host(t, c)
	output(t, h, me, false, nil, 0, api.ErrArg)
}

func TestPacketP11_2(t *testing.T) {
	h := acquainted(t, config())
	id := uint16(0)
	for _, n := range []int{0, 1, 2, 7, 8, 500, 1479, 1480} {
		for _, tos := range []byte{0, 1, 3, 255} {
			for _, proto := range []byte{0, 1, 6, 17, 255} {
				for _, df := range []bool{false, true} {
					id++
					d := to(peer, id, proto, octets(n))
					d.tos = tos
					if df {
						d.fragment = 1 << 14
					}
					out, e := h.Output(peer, proto, tos, df, octets(n), 0)
					same(t, "Output", out, e, api.OK, d.out(peerMac))
				}
			}
		}
	}
	out, e := h.Output(other, 6, 0, false, nil, 0)
	same(t, "nil", out, e, api.OK, to(other, id+1, 6, nil).out(peerMac+1))
}

// IDs go up by one a datagram, whoever it is for, and round.
func TestIDP11_2(t *testing.T) {
	h := acquainted(t, config())
	for i := range 65535 + 65536 + 3 {
		id := uint16((i + 1) % 65536)
		if i%3 == 0 {
			output(t, h, other, false, nil, 0, api.OK, to(other, id, 6, nil).out(peerMac+1))
		} else {
			output(t, h, peer, false, nil, 0, api.OK, to(peer, id, 6, nil).out(peerMac))
		}
	}
}

// fragmentsOf cuts a datagram as the document says.
func fragmentsOf(d datagram, mtu int) []datagram {
	var l []datagram
	for at := 0; ; {
		x := d
		x.data = d.data[at:]
		x.fragment = uint16(at / 8)
		if 20+len(x.data) <= mtu {
			return append(l, x)
		}
		n := 0
		for 20+n+8 <= mtu {
			n += 8
		}
		x.data = x.data[:n]
		x.fragment |= 1 << 13
		l = append(l, x)
		at += n
	}
}

func TestFragmentsP11_2(t *testing.T) {
	for _, size := range []int{68, 69, 70, 75, 76, 77, 576, 1499, 1500, 8999, 9000} {
		h := acquainted(t, withMTU(size))
		id := uint16(0)
		room := (size - 20) / 8 * 8
		for _, n := range []int{0, size - 21, size - 20, size - 19, room, room + 1, 2 * room, room + size - 21, room + size - 20, room + size - 19, 3*room + 5, 65514, 65515} {
			id++
			d := to(peer, id, 17, octets(n))
			d.tos = 9
			var want [][]byte
			for _, x := range fragmentsOf(d, size) {
				want = append(want, x.out(peerMac))
			}
			out, e := h.Output(peer, 17, 9, false, d.data, 0)
			same(t, "Output", out, e, api.OK, want...)
		}
	}
}

// With an MTU of 70, 50 octets fit a last fragment, and 48 any other.
func TestLastFragmentP11_2(t *testing.T) {
	h := acquainted(t, withMTU(70))
	for n, sizes := range map[int][]int{50: {50}, 51: {48, 3}, 98: {48, 50}, 99: {48, 48, 3}, 146: {48, 48, 50}} {
		out, _ := h.Output(peer, 6, 0, false, octets(n), 0)
		var got []int
		for _, b := range out.Frames {
			got = append(got, len(b)-34)
		}
		if !slices.Equal(got, sizes) {
			t.Errorf("%d octets go as %v; want %v", n, got, sizes)
		}
	}
}

func TestNextP11_2(t *testing.T) {
	near, far := addr(10, 0, 0, 77), addr(10, 0, 1, 77)
	for _, x := range []struct {
		bits          int
		gateway       uint32
		dst, question uint32
	}{
		{24, gate, near, near}, {24, gate, far, gate}, {24, gate, other, gate}, {24, 0, near, near}, {24, 0, far, 0}, {24, 0, other, 0},
		{23, gate, far, far}, {25, gate, addr(10, 0, 0, 127), addr(10, 0, 0, 127)}, {25, gate, addr(10, 0, 0, 128), gate},
		{32, gate, near, gate}, {32, 0, near, 0}, {32, gate, gate, gate}, {0, gate, near, near}, {0, gate, other, other}, {0, 0, other, other},
		{24, other, other, other}, {24, other, far, other}, {24, other, near, near}, {24, gate, math.MaxUint32, gate}, {24, gate, 0, gate},
		{24, me, far, me}, // a gateway that nobody can be
	} {
		c := config()
		c.Bits, c.Gateway = x.bits, x.gateway
		h := host(t, c)
		if x.question == 0 {
			output(t, h, x.dst, false, nil, 0, api.ErrRoute)
			continue
		}
		output(t, h, x.dst, false, nil, 0, api.OK, arp(toAll, mac, me, x.question, 1))
		if x.question != me {
			input(t, h, arp(mac, 5, x.question, me, 2), 0, api.OK, to(x.dst, 1, 6, nil).out(5))
		}
	}
}

func TestAskP11_2(t *testing.T) {
	h := host(t, config())
	ask := arp(toAll, mac, me, peer, 1)
	output(t, h, peer, false, []byte("1"), 0, api.OK, ask)
	output(t, h, peer, false, []byte("2"), 9, api.OK)
	output(t, h, peer, false, []byte("3"), 10, api.OK, ask)
	output(t, h, addr(10, 0, 0, 3), false, []byte("x"), 11, api.OK, arp(toAll, mac, me, addr(10, 0, 0, 3), 1))
	output(t, h, other, false, []byte("5"), 11, api.OK, arp(toAll, mac, me, gate, 1))
	output(t, h, peer, false, []byte("6"), 19, api.OK)
	output(t, h, peer, false, []byte("7"), 19, api.OK) // of five that wait the oldest is lost
	input(t, h, arp(mac, peerMac, peer, me, 2), 20, api.OK,
		to(peer, 2, 6, []byte("2")).out(peerMac), to(peer, 3, 6, []byte("3")).out(peerMac),
		to(peer, 6, 6, []byte("6")).out(peerMac), to(peer, 7, 6, []byte("7")).out(peerMac))
	input(t, h, arp(mac, peerMac, peer, me, 2), 20, api.OK)
	input(t, h, arp(mac, 9, gate, me, 2), 20, api.OK, to(other, 5, 6, []byte("5")).out(9))
	// Known for less than Age ticks.
	output(t, h, peer, false, nil, 1019, api.OK, to(peer, 8, 6, nil).out(peerMac))
	output(t, h, peer, false, nil, 1020, api.OK, ask)
	input(t, h, arp(mac, 1, peer, me, 2), 1021, api.OK, to(peer, 9, 6, nil).out(1))
	output(t, h, peer, false, nil, 1022, api.OK, to(peer, 10, 6, nil).out(1))
}

// Fragments wait like other packets: one question, and the first of them are lost.
func TestFragmentsWaitP11_2(t *testing.T) {
	h := host(t, withMTU(68))
	d := to(peer, 1, 6, octets(48*5+1))
	output(t, h, peer, false, d.data, 0, api.OK, arp(toAll, mac, me, peer, 1))
	var want [][]byte
	for _, x := range fragmentsOf(d, 68)[2:] {
		want = append(want, x.out(peerMac))
	}
	input(t, h, arp(mac, peerMac, peer, me, 2), 0, api.OK, want...)
}

func TestFullP11_2(t *testing.T) {
	c := withMTU(68)
	c.Bits = 8
	h := host(t, c)
	for i := range uint32(256) {
		output(t, h, addr(10, 1, 0, i), false, octets(49), 0, api.OK, arp(toAll, mac, me, addr(10, 1, 0, i), 1))
	}
	output(t, h, addr(10, 2, 0, 0), false, octets(49), 0, api.ErrFull)
	output(t, h, addr(10, 2, 0, 0), false, octets(1), 0, api.ErrFull)
	first := fragmentsOf(to(addr(10, 1, 0, 0), 1, 6, octets(49)), 68)
	input(t, h, arp(mac, 7, addr(10, 1, 0, 0), me, 2), 0, api.OK, first[0].out(7), first[1].out(7))
	// The IDs 257 and 258 are used up.
	output(t, h, addr(10, 1, 0, 0), false, octets(1), 0, api.OK, to(addr(10, 1, 0, 0), 259, 6, octets(1)).out(7))
	output(t, h, addr(10, 2, 0, 0), false, octets(1), 0, api.OK, arp(toAll, mac, me, addr(10, 2, 0, 0), 1))
}

func TestFrameErrorsP11_3(t *testing.T) {
	h := acquainted(t, config())
	for n := range 14 {
		input(t, h, make([]byte, n), 0, api.ErrShort)
	}
	input(t, h, make([]byte, 65536), 0, api.ErrLong)
	good := from(6, []byte("hi")).packet()
	for _, dst := range []uint64{0, mac - 1, mac + 1, peerMac, toAll - 1, toAll >> 1, mac ^ 1<<47} {
		input(t, h, frame(dst, peerMac, 2048, good), 0, api.ErrNone)
		input(t, h, frame(dst, peerMac, 2048, nil), 0, api.ErrNone)
		input(t, h, frame(dst, peerMac, 2054, nil), 0, api.ErrNone)
		input(t, h, arp(dst, peerMac, peer, me, 1), 0, api.ErrNone)
	}
	for _, kind := range []uint16{0, 8, 2047, 2049, 2053, 2055, 0x86dd, 65535} {
		input(t, h, frame(mac, peerMac, kind, good), 0, api.ErrNone)
		input(t, h, frame(toAll, peerMac, kind, good), 0, api.ErrNone)
	}
	want := ipnet.Got{Proto: 6, Src: peer, Data: []byte("hi")}
	got(t, h, frame(mac, peerMac, 2048, good), 0, want)
	got(t, h, frame(toAll, peerMac, 2048, good), 0, want)
	got(t, h, frame(mac, mac, 2048, good), 0, want) // Src is not looked at
	got(t, h, frame(mac, peerMac, 2048, append(bytes.Clone(good), octets(30)...)), 0, want)
}

func TestArpP11_3(t *testing.T) {
	c := config()
	h := host(t, c)
	question := arp(toAll, peerMac, peer, me, 1)
	for n := range 28 {
		input(t, h, question[:14+n], 0, api.ErrShort)
	}
	for i := range 8 {
		b := bytes.Clone(question)
		b[14+i] ^= 64
		input(t, h, b, 0, api.ErrArp)
	}
	for _, op := range []byte{0, 3, 255} {
		input(t, h, arp(mac, peerMac, peer, me, op), 0, api.ErrArp)
	}
	for _, op := range []byte{1, 2} {
		input(t, h, arp(mac, peerMac, peer, gate, op), 0, api.ErrNone)
		input(t, h, arp(toAll, peerMac, peer, 0, op), 0, api.ErrNone)
		input(t, h, arp(toAll, peerMac, peer, peer, op), 0, api.ErrNone)
		input(t, h, arp(mac, peerMac, me, me, op), 0, api.ErrNone)
		input(t, h, arp(toAll, mac, me, peer, op), 0, api.ErrNone)
	}
	// Nothing of all that was learnt.
	output(t, h, peer, false, nil, 0, api.OK, arp(toAll, mac, me, peer, 1))
	reply := arp(peerMac, mac, me, peer, 2)
	// What waited, then the answer.
	input(t, h, question, 0, api.OK, to(peer, 1, 6, nil).out(peerMac), reply)
	output(t, h, peer, false, nil, 0, api.OK, to(peer, 2, 6, nil).out(peerMac))
	input(t, h, question, 0, api.OK, reply)
	input(t, h, arp(mac, peerMac, peer, me, 1), 0, api.OK, reply)
	input(t, h, append(arp(mac, peerMac, peer, me, 1), octets(18)...), 0, api.OK, reply)
	input(t, h, arp(mac, peerMac, peer, me, 2), 0, api.OK)
	input(t, h, arp(toAll, peerMac, peer, me, 2), 0, api.OK)
	// It is SrcMac of the ARP that counts, not the frame's Src; DstMac is not looked at.
	b := arp(mac, 0x0a0b0c0d0e0f, peer, me, 1)
	copy(b[6:12], octets(6))
	copy(b[32:38], octets(7)[1:])
	input(t, h, b, 0, api.OK, arp(0x0a0b0c0d0e0f, mac, me, peer, 2))
	output(t, h, peer, false, nil, 0, api.OK, to(peer, 3, 6, nil).out(0x0a0b0c0d0e0f))
	// One from another net is learnt, and answered; packets to it go by the gateway.
	input(t, h, arp(mac, 9, other, me, 1), 0, api.OK, arp(9, mac, me, other, 2))
	output(t, h, other, false, nil, 0, api.OK, arp(toAll, mac, me, gate, 1))
}

func TestPacketErrorsP11_3(t *testing.T) {
	h := acquainted(t, config())
	whole := from(6, []byte("hi"))
	b := whole.in()
	for n := range 20 {
		input(t, h, b[:14+n], 0, api.ErrShort)
	}
	change := func(at int, x byte, sealed bool) []byte {
		y := bytes.Clone(b)
		y[14+at] ^= x
		if sealed {
			seal(y[14:34], 10)
		}
		return y
	}
	input(t, h, change(0, 0x10, true), 0, api.ErrVersion)
	input(t, h, change(0, 1, true), 0, api.ErrLength)
	input(t, h, change(3, 64, true), 0, api.ErrLength)
	input(t, h, b[:len(b)-1], 0, api.ErrLength)
	input(t, h, change(8, 1, false), 0, api.ErrSum)
	for _, dst := range []uint32{0, peer, gate, me ^ 1, me ^ 1<<31, math.MaxUint32, addr(10, 0, 0, 255)} {
		x := whole
		x.dst = dst
		input(t, h, x.in(), 0, api.ErrNone)
		x.fragment = 1 << 13 // though it would be no fragment
		input(t, h, x.in(), 0, api.ErrNone)
	}
	x := whole
	x.src = me
	input(t, h, x.in(), 0, api.ErrNone)
	for _, src := range []uint32{0, math.MaxUint32, other, addr(127, 0, 0, 1)} {
		x.src = src
		got(t, h, x.in(), 0, ipnet.Got{Proto: 6, Src: src, Data: []byte("hi")})
	}
}

func TestGotP11_3(t *testing.T) {
	h := acquainted(t, config())
	for _, n := range []int{0, 1, 20, 1480, 9000, 65501} {
		d := from(6, octets(n))
		d.tos = byte(n)
		got(t, h, d.in(), 0, ipnet.Got{Proto: 6, Src: peer, TOS: byte(n), Data: d.data})
	}
	d := from(6, []byte("hi"))
	d.options, d.fragment, d.ttl = octets(40), 3<<14, 0
	got(t, h, d.in(), 0, ipnet.Got{Proto: 6, Src: peer, Data: []byte("hi")})
}

// pieces are fragments that peer sends, of 16, 8 and 3 octets.
func pieces(proto byte, data []byte) [3]datagram {
	var l [3]datagram
	for i, x := range [][2]int{{0, 16}, {16, 24}, {24, len(data)}} {
		l[i] = from(proto, data[x[0]:x[1]])
		l[i].fragment = 1<<13 | uint16(x[0]/8)
		l[i].tos, l[i].ttl = byte(i+1), byte(i+100)
	}
	l[2].fragment &^= 1 << 13
	return l
}

// TOS is that of the fragment that came last.
func TestFragmentsInP11_3(t *testing.T) {
	data := octets(27)
	for _, order := range [][3]int{{0, 1, 2}, {0, 2, 1}, {1, 0, 2}, {1, 2, 0}, {2, 0, 1}, {2, 1, 0}} {
		h := acquainted(t, config())
		l := pieces(6, data)
		input(t, h, l[order[0]].in(), 0, api.OK)
		input(t, h, l[order[1]].in(), 99, api.OK)
		input(t, h, l[order[0]].in(), 99, api.OK)
		got(t, h, l[order[2]].in(), 99, ipnet.Got{Proto: 6, Src: peer, TOS: byte(order[2] + 1), Data: data})
		// By Patience the first ones are forgotten.
		input(t, h, l[order[0]].in(), 100, api.OK)
		input(t, h, l[order[1]].in(), 100, api.OK)
		input(t, h, l[order[2]].in(), 200, api.OK)
	}
}

func TestFragmentErrorsP11_3(t *testing.T) {
	h := acquainted(t, config())
	l := pieces(6, octets(27))
	odd := l[0]
	odd.data = odd.data[:15]
	input(t, h, odd.in(), 0, api.ErrFragment)
	empty := l[2]
	empty.data = nil
	input(t, h, empty.in(), 0, api.ErrFragment)
	input(t, h, l[0].in(), 0, api.OK)
	over := l[1]
	over.fragment = 1<<13 | 1
	input(t, h, over.in(), 0, api.ErrOverlap)
	input(t, h, l[1].in(), 0, api.OK)
	input(t, h, l[2].in(), 0, api.OK) // the first was forgotten
	// 16 at a time.
	for id := range uint16(15) {
		l[0].id = 1000 + id
		input(t, h, l[0].in(), 0, api.OK)
	}
	l[0].id = 2000
	input(t, h, l[0].in(), 0, api.ErrFull)
	got(t, h, from(6, []byte("hi")).in(), 0, ipnet.Got{Proto: 6, Src: peer, Data: []byte("hi")})
	input(t, h, l[0].in(), 99, api.ErrFull)
	input(t, h, l[0].in(), 100, api.OK)
}

func TestEchoP11_3(t *testing.T) {
	h := acquainted(t, config())
	for i, n := range []int{0, 1, 2, 56, 1472} {
		d := from(1, icmp(8, 0, 0xdeadbeef, octets(n)))
		d.tos, d.fragment, d.options = 255, 1<<14, octets(4)
		input(t, h, d.in(), 0, api.OK, to(peer, uint16(i+1), 1, icmp(0, 0, 0xdeadbeef, octets(n))).out(peerMac))
	}
	// In fragments, one and the other way.
	long := fragmentsOf(datagram{id: 5, ttl: 1, proto: 1, src: peer, dst: me, data: icmp(8, 0, 7, octets(65507))}, 9000)
	for _, x := range long[:len(long)-1] {
		input(t, h, x.in(), 0, api.OK)
	}
	var want [][]byte
	for _, x := range fragmentsOf(to(peer, 6, 1, icmp(0, 0, 7, octets(65507))), 1500) {
		want = append(want, x.out(peerMac))
	}
	input(t, h, long[len(long)-1].in(), 0, api.OK, want...)
	// To an unknown neighbour it waits; to everybody's frame it is sent likewise.
	d := from(1, icmp(8, 0, 1, nil))
	d.src = addr(10, 0, 0, 3)
	input(t, h, frame(toAll, 3, 2048, d.packet()), 0, api.OK, arp(toAll, mac, me, d.src, 1))
	input(t, h, arp(mac, 3, d.src, me, 2), 0, api.OK, to(d.src, 7, 1, icmp(0, 0, 1, nil)).out(3))
	// By the gateway.
	d.src = other
	input(t, h, d.in(), 0, api.OK, to(other, 8, 1, icmp(0, 0, 1, nil)).out(peerMac+1))
}

func TestMessageErrorsP11_3(t *testing.T) {
	h := acquainted(t, config())
	b := icmp(8, 0, 1, octets(20))
	for n := range 8 {
		input(t, h, from(1, b[:n]).in(), 0, api.ErrShort)
	}
	for i := range b {
		x := bytes.Clone(b)
		x[i] ^= 4
		input(t, h, from(1, x).in(), 0, api.ErrSum)
	}
	// All other messages say nothing.
	for kind := range 256 {
		for _, code := range []byte{0, 1, 2, 3, 4, 5, 255} {
			if kind == 8 && code == 0 || kind == 3 && code == 4 {
				continue
			}
			input(t, h, from(1, icmp(byte(kind), code, 100, from(6, octets(8)).packet())).in(), 0, api.OK)
		}
	}
	for _, ip := range []uint32{peer, other, me, 0} {
		mtu(t, h, ip, 1500)
	}
	output(t, h, peer, false, nil, 0, api.OK, to(peer, 1, 6, nil).out(peerMac)) // no ID was used
}

// An error of what is sent in answer is not told.
func TestAnswerErrorsP11_3(t *testing.T) {
	c := config()
	c.Gateway = 0
	h := host(t, c)
	d := from(1, icmp(8, 0, 1, nil))
	d.src = other
	input(t, h, d.in(), 0, api.OK)
	d.proto = 17
	input(t, h, d.in(), 0, api.OK)
	for i := range uint32(256) {
		if dst := addr(10, 0, 0, i); dst != me {
			output(t, h, dst, false, nil, 0, api.OK, arp(toAll, mac, me, dst, 1))
		}
	}
	c.Bits = 8
	h = host(t, c)
	for i := range uint32(256) {
		output(t, h, addr(10, 1, 0, i), false, nil, 0, api.OK, arp(toAll, mac, me, addr(10, 1, 0, i), 1))
	}
	input(t, h, from(1, icmp(8, 0, 1, nil)).in(), 0, api.OK)
	input(t, h, from(17, nil).in(), 0, api.OK)
}

// tooBig is the message of a router about a packet to dst.
func tooBig(dst, rest uint32) []byte {
	about := to(dst, 1, 6, octets(8)).packet()
	d := from(1, icmp(3, 4, rest, about))
	d.src = gate
	return d.in()
}

func TestPathP11_3(t *testing.T) {
	h := acquainted(t, config())
	told := func(dst, rest uint32, want int) {
		t.Helper()
		input(t, h, tooBig(dst, rest), 0, api.OK)
		mtu(t, h, dst, want)
	}
	told(other, 1500, 1500)
	told(other, 1501, 1500)
	told(other, 65535, 1500)
	told(other, 1499, 1499)
	told(other, 1500, 1499)
	told(other, 5<<16|1400, 1400)
	told(other, math.MaxUint32, 1400)
	told(other, 1401, 1400)
	told(other, 69, 69)
	told(other, 68, 68)
	told(other, 67, 68)
	told(peer, 0, 68)
	told(gate, 1<<16, 68)
	told(0, 100, 100)
	told(me, 101, 101)
	mtu(t, h, other, 68)
	mtu(t, h, addr(8, 8, 8, 9), 1500)
	// 20 octets of Data at least; what they are is not looked at.
	for n := range 24 {
		b := bytes.Repeat([]byte{9}, n)
		d := from(1, icmp(3, 4, 700, b))
		input(t, h, d.in(), 0, api.OK)
		if n == 19 {
			mtu(t, h, addr(9, 9, 9, 9), 1500)
		}
	}
	mtu(t, h, addr(9, 9, 9, 9), 700)
	// By an MTU of 68 nothing is less.
	h = acquainted(t, withMTU(68))
	told(peer, 0, 68)
	told(peer, 67, 68)
}

func TestPathCountsP11_2(t *testing.T) {
	h := acquainted(t, config())
	input(t, h, tooBig(peer, 100), 0, api.OK)
	output(t, h, peer, true, octets(81), 0, api.ErrBig)
	d := to(peer, 1, 6, octets(80))
	d.fragment = 1 << 14
	output(t, h, peer, true, octets(80), 0, api.OK, d.out(peerMac))
	l := fragmentsOf(to(peer, 2, 6, octets(81)), 100)
	output(t, h, peer, false, octets(81), 0, api.OK, l[0].out(peerMac), l[1].out(peerMac))
	// To another one by the same neighbour it says nothing.
	output(t, h, gate, false, octets(81), 0, api.OK, to(gate, 3, 6, octets(81)).out(peerMac+1))
	input(t, h, tooBig(other, 100), 0, api.OK)
	output(t, h, gate, false, octets(81), 0, api.OK, to(gate, 4, 6, octets(81)).out(peerMac+1))
	output(t, h, other, true, octets(81), 0, api.ErrBig)
}

func TestPathsP11_3(t *testing.T) {
	h := acquainted(t, config())
	input(t, h, tooBig(addr(7, 0, 0, 0), 1500), 0, api.OK) // not less, so not kept
	for i := range uint32(256) {
		input(t, h, tooBig(addr(6, 0, 0, i), 1000), 0, api.OK)
	}
	input(t, h, tooBig(addr(7, 0, 0, 1), 1000), 0, api.OK)
	mtu(t, h, addr(7, 0, 0, 1), 1500)
	for i := range uint32(256) {
		mtu(t, h, addr(6, 0, 0, i), 1000)
		input(t, h, tooBig(addr(6, 0, 0, i), 900), 0, api.OK)
		mtu(t, h, addr(6, 0, 0, i), 900)
	}
	input(t, h, tooBig(addr(7, 0, 0, 1), 1000), 0, api.OK)
	mtu(t, h, addr(7, 0, 0, 1), 1500)
}

// refusal is the message about a datagram of peer.
func refusal(id uint16, code byte, about datagram) []byte {
	size := uint16(20 + len(about.data))
	about.options, about.fragment = nil, 0
	whole := about
	about.data = about.data[:min(len(about.data), 8)]
	b := about.packet()
	binary.BigEndian.PutUint16(b[2:], size)
	seal(b[:20], 10)
	return to(whole.src, id, 1, icmp(3, code, 0, b)).out(peerMac)
}

func TestRefusalP11_3(t *testing.T) {
	h := acquainted(t, config())
	id := uint16(0)
	refused := func(d datagram, code byte) {
		t.Helper()
		id++
		input(t, h, d.in(), 0, api.OK, refusal(id, code, d))
	}
	for proto := range 256 {
		if proto != 1 && proto != 6 && proto != 17 {
			refused(from(byte(proto), octets(30)), 2)
		}
	}
	for n := range 12 {
		refused(from(17, octets(n)), 3)
		refused(from(2, octets(n)), 2)
	}
	d := from(17, octets(30))
	d.tos, d.ttl, d.id = 255, 0, 65535
	refused(d, 3)
	d.tos, d.ttl, d.id = 3, 255, 0
	d.fragment = 1 << 14
	refused(d, 3)
	d.fragment = 3 << 14
	refused(d, 3)
	d.options = octets(40)
	refused(d, 3)
	d.proto = 255
	refused(d, 2)
	d.data = octets(65401)
	refused(d, 2)
	// Whoever sent it: by the gateway.
	d = from(17, octets(30))
	d.src = other
	id++
	out, e := h.Input(d.in(), 0)
	same(t, "Input", out, e, api.OK, slices.Concat(frame(peerMac+1, 0, 0, nil)[:6], refusal(id, 3, d)[6:]))
}

// Of fragments TOS, TTL and ID are the last one's, and the length is the whole one.
func TestRefusalOfFragmentsP11_3(t *testing.T) {
	data := octets(27)
	for _, order := range [][3]int{{0, 1, 2}, {0, 2, 1}, {1, 0, 2}, {1, 2, 0}, {2, 0, 1}, {2, 1, 0}} {
		h := acquainted(t, config())
		l := pieces(17, data)
		for i := range l {
			l[i].options = octets(4 * i)
			l[i].fragment |= 1 << 14
		}
		input(t, h, l[order[0]].in(), 0, api.OK)
		input(t, h, l[order[1]].in(), 0, api.OK)
		whole := l[order[2]]
		whole.data = data
		input(t, h, l[order[2]].in(), 0, api.OK, refusal(1, 3, whole))
	}
	// The greatest: 65515 octets, the whole length 65535, though the last one has options.
	h := acquainted(t, config())
	whole := datagram{id: 5, ttl: 1, proto: 17, src: peer, dst: me, data: octets(65515)}
	l := fragmentsOf(whole, 9000)
	for i, x := range l {
		if i < len(l)-1 {
			input(t, h, x.in(), 0, api.OK)
			continue
		}
		x.options = octets(40)
		input(t, h, x.in(), 0, api.OK, refusal(1, 3, whole))
	}
}

// A message waits for an unknown neighbour, as others do.
func TestRefusalWaitsP11_3(t *testing.T) {
	h := host(t, config())
	d := from(17, octets(9))
	input(t, h, d.in(), 0, api.OK, arp(toAll, mac, me, peer, 1))
	input(t, h, arp(mac, peerMac, peer, me, 2), 0, api.OK, refusal(1, 3, d))
}

// whose is what a frame tells of the host that it is for.
type whose struct {
	mac uint64
	ip  uint32
}

// taken tells that a host takes a frame: one of that Mac, whom what is in it is for.
func taken(t *testing.T, hosts map[whose]*ipnet.Host, b []byte, now int) {
	t.Helper()
	if len(b) < 34 || len(b) > 14+9000 {
		t.Fatalf("a frame of %d octets", len(b))
	}
	dst := binary.BigEndian.Uint64(append([]byte{0, 0}, b[:6]...))
	ip := binary.BigEndian.Uint32(b[30:34])
	if binary.BigEndian.Uint16(b[12:14]) == 2054 {
		ip = binary.BigEndian.Uint32(b[38:42])
	}
	if dst == toAll {
		dst = 5
	}
	key := whose{dst, ip}
	if hosts[key] == nil {
		c := config()
		c.Mac, c.IP, c.Bits, c.Patience = dst, ip, 0, 1 // of some datagrams not all fragments come
		hosts[key] = host(t, c)
	}
	if _, e := hosts[key].Input(b, now); e != api.OK {
		t.Fatalf("a host does not take %x: %d", b, e)
	}
}

// anyFrame is nearly a frame for the host.
func anyFrame(r *rand.Rand) []byte {
	near := []uint32{me, peer, gate, other, addr(10, 0, 0, 9), 0, math.MaxUint32, r.Uint32()}
	pick := func() uint32 { return near[r.Intn(len(near))] }
	d := datagram{tos: byte(r.Intn(256)), id: uint16(r.Intn(3)), ttl: byte(r.Intn(256)), src: pick(), dst: me, options: octets(4 * r.Intn(3) * r.Intn(2)), data: octets(8 * r.Intn(5))}
	d.proto = []byte{1, 1, 6, 17, byte(r.Intn(256))}[r.Intn(5)]
	if r.Intn(3) == 0 {
		d.fragment = uint16(r.Intn(8))<<13 | uint16(r.Intn(5))
	}
	if d.proto == 1 && r.Intn(8) > 0 {
		d.data = icmp([]byte{0, 3, 8, byte(r.Intn(256))}[r.Intn(4)], byte(r.Intn(5)*r.Intn(2)), r.Uint32(), to(pick(), 1, 6, octets(8)).packet())
	}
	if r.Intn(20) == 0 {
		d.dst = pick()
	}
	b := d.in()
	switch r.Intn(6) {
	case 0:
		b = arp(mac, uint64(r.Intn(9)), pick(), me, byte(1+r.Intn(2)))
	case 1:
		b = arp(toAll, uint64(r.Intn(9)), pick(), pick(), byte(r.Intn(4)))
	}
	if r.Intn(4) == 0 {
		b[r.Intn(len(b))] ^= byte(r.Intn(256))
	}
	if r.Intn(10) == 0 {
		b = b[:r.Intn(len(b)+1)]
	}
	return b
}

func TestAnyFrameP11_4(t *testing.T) {
	sent := 0
	for seed := range 60 {
		r := rand.New(rand.NewSource(int64(seed)))
		c := withMTU(68 + r.Intn(100))
		c.Gateway *= uint32(r.Intn(2))
		h := host(t, c)
		hosts := map[whose]*ipnet.Host{}
		now := 0
		for range 400 {
			now += 1 + r.Intn(3)
			var out ipnet.Out
			var e api.Errno
			if r.Intn(4) == 0 {
				out, e = h.Output(r.Uint32()&3+peer, byte(2+r.Intn(254)), byte(r.Intn(256)), r.Intn(2) == 0, octets(r.Intn(300)), now)
			} else {
				out, e = h.Input(anyFrame(r), now)
			}
			if e != api.OK && len(out.Frames)+len(out.Got) > 0 {
				t.Fatal("beside an error:", e, out)
			}
			for _, b := range out.Frames {
				taken(t, hosts, b, now)
				sent++
			}
		}
	}
	if sent < 5000 {
		t.Error("frames that were sent:", sent)
	}
}

// wire carries all frames between two hosts till none is left, and gives what the hosts got.
func wire(t *testing.T, hosts [2]*ipnet.Host, at int, frames [][]byte, now int, mix func(l [][]byte)) [2][]ipnet.Got {
	t.Helper()
	var all [2][]ipnet.Got
	for side := 1 - at; len(frames) > 0; side = 1 - side {
		mix(frames)
		var next [][]byte
		for _, b := range frames {
			out, e := hosts[side].Input(b, now)
			if e != api.OK {
				t.Fatalf("Input of %x: %d", b, e)
			}
			next = append(next, out.Frames...)
			all[side] = append(all[side], out.Got...)
		}
		frames = next
	}
	return all
}

// What one puts out, in fragments too, in whatever order they come, the other one gets, whole.
func TestBetweenTwoP11_5(t *testing.T) {
	for seed := range 200 {
		r := rand.New(rand.NewSource(int64(seed)))
		var hosts [2]*ipnet.Host
		ips := [2]uint32{peer, me}
		size := 68 + r.Intn(1500)
		for i := range hosts {
			c := withMTU(size)
			c.Mac, c.IP = uint64(10+i), ips[i]
			hosts[i] = host(t, c)
		}
		mix := func(l [][]byte) { r.Shuffle(len(l), func(i, j int) { l[i], l[j] = l[j], l[i] }) }
		now := 0
		for range 20 {
			now += r.Intn(400)
			at := r.Intn(2)
			n := r.Intn(5 * size)
			if r.Intn(10) == 0 {
				n = 65000 + r.Intn(516)
			}
			data, tos := octets(n), byte(r.Intn(256))
			if n > 3*((size-20)/8*8)+size-20 { // more fragments than wait for an address
				out, _ := hosts[at].Output(ips[1-at], 6, 0, false, nil, now)
				wire(t, hosts, at, out.Frames, now, mix)
			}
			out, e := hosts[at].Output(ips[1-at], 6, tos, false, data, now)
			if e != api.OK || len(out.Got) > 0 {
				t.Fatal("Output:", e)
			}
			all := wire(t, hosts, at, out.Frames, now, mix)
			if len(all[at]) != 0 || len(all[1-at]) != 1 {
				t.Fatalf("seed %d: %d, %d came", seed, len(all[at]), len(all[1-at]))
			}
			x := all[1-at][0]
			if x.Proto != 6 || x.Src != ips[at] || x.TOS != tos || !bytes.Equal(x.Data, data) {
				t.Fatalf("seed %d: another one came: %d octets of %d", seed, len(x.Data), len(data))
			}
		}
	}
}

// Two hosts of which one answers the other's echoes.
func TestEchoBetweenTwoP11_5(t *testing.T) {
	var hosts [2]*ipnet.Host
	for i, ip := range []uint32{peer, me} {
		c := withMTU(200)
		c.Mac, c.IP = uint64(10+i), ip
		hosts[i] = host(t, c)
	}
	for i, n := range []int{0, 100, 600} {
		out, e := hosts[0].Output(me, 1, 5, false, icmp(8, 0, 9, octets(n)), i)
		if e != api.OK {
			t.Fatal("Output:", e)
		}
		all := wire(t, hosts, 0, out.Frames, i, func(l [][]byte) {})
		if len(all[0])+len(all[1]) != 0 {
			t.Error("a message is for the layer above")
		}
	}
}

func TestMemoryP11_6(t *testing.T) {
	h := host(t, withMTU(68))
	data := octets(60)
	h.Output(peer, 6, 0, false, data, 0)
	if !bytes.Equal(data, octets(60)) {
		t.Error("an argument was changed")
	}
	clear(data)
	l := pieces(6, octets(27))
	for _, x := range l[:2] {
		b := x.in()
		h.Input(b, 0)
		if !bytes.Equal(b, x.in()) {
			t.Error("an argument was changed")
		}
		clear(b)
	}
	b := l[2].in()
	out, _ := h.Input(b, 0)
	clear(b)
	if len(out.Got) != 1 || !bytes.Equal(out.Got[0].Data, octets(27)) {
		t.Error("a frame that was handed in is kept, or shared")
	}
	b = arp(mac, peerMac, peer, me, 1)
	out, _ = h.Input(b, 0)
	clear(b)
	want := fragmentsOf(to(peer, 1, 6, octets(60)), 68)
	same(t, "Input", out, api.OK, api.OK, want[0].out(peerMac), want[1].out(peerMac), arp(peerMac, mac, me, peer, 2))
	for i, x := range out.Frames {
		_ = append(x, "beyond"...)
		for j := range x[:cap(x)] {
			x[:cap(x)][j] = byte(i)
		}
	}
	for i, x := range out.Frames {
		if x[0] != byte(i) || x[len(x)-1] != byte(i) {
			t.Error("two frames share memory")
		}
	}
	whole := from(6, []byte("whole")).in()
	out, _ = h.Input(whole, 0)
	clear(whole)
	if string(out.Got[0].Data) != "whole" {
		t.Error("an answer shares memory with an argument")
	}
	data = []byte("whole")
	out, _ = h.Output(peer, 6, 0, false, data, 0)
	clear(data)
	if !strings.HasSuffix(string(out.Frames[0]), "whole") {
		t.Error("an answer shares memory with an argument")
	}
	echo := from(1, icmp(8, 0, 1, []byte("echo"))).in()
	out, _ = h.Input(echo, 0)
	clear(echo)
	if !strings.HasSuffix(string(out.Frames[0]), "echo") {
		t.Error("an answer shares memory with an argument")
	}
}

func FuzzInput(f *testing.F) {
	r := rand.New(rand.NewSource(1))
	for range 50 {
		f.Add(anyFrame(r), anyFrame(r))
	}
	f.Fuzz(func(t *testing.T, one, two []byte) {
		h := host(t, withMTU(100))
		hosts := map[whose]*ipnet.Host{}
		for i, b := range [][]byte{one, two, one} {
			out, e := h.Input(b, i)
			if e != api.OK && len(out.Frames)+len(out.Got) > 0 {
				t.Fatal("beside an error:", e, out)
			}
			for _, x := range out.Frames {
				taken(t, hosts, x, i)
			}
			if n := h.MTU(peer); n < 68 || n > 100 {
				t.Fatal("MTU:", n)
			}
		}
	})
}
