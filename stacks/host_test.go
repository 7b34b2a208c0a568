package stacks

import (
	"reflect"
	"testing"

	"stopcock/api"
	"stopcock/conn"
	"stopcock/ether"
	"stopcock/ipwire"
	"stopcock/rtt"
	"stopcock/shard"
)

func hostOf(every, limit int) *host {
	return newHost(Config{Shards: 1, MTU: 1500, Every: every, Limit: limit, Quantum: 1000, Conn: conn.Config{MSS: 1000, Send: 1, Recv: 1, Kind: 1,
		Rtt: rtt.Params{Init: 1, Min: 1, Max: 1, Grain: 1}, MSL: 1, Tries: 1}}, 0)
}

// frameOf is a frame of 1000 octets with an ID, of a packet that may be marked.
func frameOf(id uint16) []byte {
	b, _ := ipwire.Build(api.IP{ID: id, TOS: ect, TTL: 9, Proto: protoTCP, Src: firstIP, Dst: firstIP + 1, Data: make([]byte, 966)})
	out, _ := ether.Build(api.Ether{Type: typeIP, Data: b})
	return out
}

func put(h *host, f *flow, now int, ids ...uint16) {
	for _, id := range ids {
		h.enqueue(frameOf(id), f, now)
	}
}

// leaves are the IDs of those that leave a card till a tick, and the ticks.
func leaves(h *host, from, to int) (ids []uint16, ticks []int, marks int) {
	for now := from; now < to; now++ {
		if frame, ok := h.emit(now); ok {
			p, _ := packetOf(frame)
			ids, ticks = append(ids, p.ID), append(ticks, now)
			if p.TOS == ce {
				marks++
			}
		}
	}
	return ids, ticks, marks
}

func same(t *testing.T, what string, got, want any) {
	t.Helper()
	if !reflect.DeepEqual(got, want) {
		t.Errorf("%s: %v; want %v", what, got, want)
	}
}

// TestFairG4: the card takes four ahead; between those that wait behind it the
// queue is fair.
func TestFairG4(t *testing.T) {
	h := hostOf(10, 100)
	a, b := h.flowOf(key{1, 1, 1}), h.flowOf(key{1, 1, 2})
	put(h, a, 0, 1, 2, 3, 4, 5, 6, 7, 8)
	put(h, b, 0, 11, 12, 13)
	ids, ticks, _ := leaves(h, 0, 110)
	same(t, "order", ids, []uint16{1, 2, 3, 4, 11, 5, 12, 6, 13, 7, 8})
	same(t, "ticks", ticks, []int{0, 10, 20, 30, 40, 50, 60, 70, 80, 90, 100})
	same(t, "parcels", len(h.parcels), 0)
}

// TestLimit: the fattest flow pays where all is full.
func TestLimit(t *testing.T) {
	h := hostOf(10, 3)
	a, b := h.flowOf(key{1, 1, 1}), h.flowOf(key{1, 1, 2})
	put(h, a, 0, 1, 2, 3, 4, 5, 6, 7)
	put(h, b, 0, 11)
	same(t, "parcels", len(h.parcels), 3)
	ids, _, _ := leaves(h, 0, 100)
	same(t, "order", ids, []uint16{1, 2, 3, 4, 11, 6, 7})
}

// TestCoDel: what stays too long is marked, not dropped.
func TestCoDel(t *testing.T) {
	h := hostOf(30, 100)
	a := h.flowOf(key{1, 1, 1})
	for id := range uint16(20) {
		put(h, a, 0, id)
	}
	ids, _, marks := leaves(h, 0, 1000)
	same(t, "frames", len(ids), 20)
	if marks < 2 {
		t.Errorf("%d frames were marked", marks)
	}
}

// TestPaceG4: a connection's frames leave by its rate; another one's are not
// held back by them.
func TestPaceG4(t *testing.T) {
	h := hostOf(1, 100)
	a, b := h.flowOf(key{1, 1, 1}), h.flowOf(key{1, 1, 2})
	a.rate = 10240 // a frame in 100 ticks, and a quantum of one ahead at first
	put(h, a, 1000, 1, 2, 3, 4)
	put(h, b, 1000, 11, 12)
	ids, ticks, _ := leaves(h, 1000, 1400)
	same(t, "order", ids, []uint16{1, 2, 11, 12, 3, 4})
	same(t, "ticks", ticks, []int{1000, 1001, 1002, 1003, 1100, 1200})
	// Where there is no rate any more they leave behind those that wait by one.
	h = hostOf(1, 100)
	a = h.flowOf(key{1, 1, 1})
	a.rate = 10240
	put(h, a, 1000, 1, 2, 3)
	a.rate = 0
	put(h, a, 1000, 4, 5)
	ids, ticks, _ = leaves(h, 1000, 1400)
	same(t, "order", ids, []uint16{1, 2, 3, 4, 5})
	same(t, "ticks", ticks[2:], []int{1100, 1200, 1201})
}

func TestAddresses(t *testing.T) {
	for place, want := range [][2]uint32{{0x0a000001, 0x0a000002}, {0x0a000002, 0x0a000001}} {
		h := newHost(Config{Shards: 1, MTU: 1500, Every: 1, Limit: 1, Quantum: 1}, place)
		same(t, "addresses", [2]uint32{h.ip, h.peer}, want)
	}
}

// TestFlows: one flow a connection, as long as there are as many; the first one
// is no connection's.
func TestFlows(t *testing.T) {
	h := hostOf(1, 100)
	same(t, "the first one", h.flows[0].number, 0)
	seen := map[int]int{0: 1}
	for i := range 1023 {
		f := h.flowOf(key{1, 1, uint16(i)})
		if f != h.flowOf(key{1, 1, uint16(i)}) {
			t.Fatal("two flows of one connection")
		}
		seen[f.number]++
	}
	for n := range 1024 {
		same(t, "flows of a number", seen[n], 1)
	}
	same(t, "one more", h.flowOf(key{2, 1, 1}).number, 1)
}

// TestFlowBy: a frame is known by its ports, if it has any.
func TestFlowBy(t *testing.T) {
	h := hostOf(1, 100)
	frame := func(p api.IP) []byte {
		b, _ := ipwire.Build(p)
		out, _ := ether.Build(api.Ether{Type: typeIP, Data: b})
		return out
	}
	ports := []byte{1, 2, 3, 4}
	own := h.flowOf(key{7, 0x0102, 0x0304})
	for _, x := range []struct {
		frame []byte
		want  *flow
	}{
		{frame(api.IP{Proto: protoTCP, Dst: 7, Data: ports}), own},
		{frame(api.IP{Proto: protoTCP, Dst: 7, Data: append(ports, 5)}), own},
		{frame(api.IP{Proto: protoTCP, Dst: 7, MF: true, Data: append(ports, 5, 6, 7, 8)}), own},
		{frame(api.IP{Proto: protoTCP, Dst: 7, Offset: 8, Data: ports}), h.flows[0]},
		{frame(api.IP{Proto: protoTCP, Dst: 7, Data: ports[:3]}), h.flows[0]},
		{frame(api.IP{Proto: 17, Dst: 7, Data: ports}), h.flows[0]},
		{nil, h.flows[0]},
		{make([]byte, 60), h.flows[0]},
	} {
		if got := h.flowBy(x.frame); got != x.want {
			t.Errorf("%v: the flow %d; want %d", x.frame, got.number, x.want.number)
		}
	}
	if got := h.flowBy(frame(api.IP{Proto: protoTCP, Dst: 8, Data: ports})); got == own || got == h.flows[0] {
		t.Error("another peer's frame has the same flow")
	}
}

// TestSlow: what has no departure yet waits, as much as the pacer takes; then the
// queue fills, and what is no connection's passes it by.
func TestSlow(t *testing.T) {
	h := hostOf(1, 4096)
	a := h.flowOf(key{1, 1, 1})
	a.rate = 1
	for range 4200 {
		put(h, a, 0, 1)
	}
	same(t, "waiting", []int{a.pace.Len(), h.queue.Len(), h.card.Waiting(), len(h.parcels)}, []int{4096, 103, 1, 4199})
	h = hostOf(1, 4096)
	a = h.flowOf(key{1, 1, 1})
	a.rate = 1
	put(h, a, 0, 1, 2, 3)
	arp, _ := ether.Build(api.Ether{Type: 2054, Data: make([]byte, 28)})
	h.enqueue(arp, a, 0)
	same(t, "waiting", []int{a.pace.Len(), h.card.Waiting()}, []int{2, 2})
}

// TestDropped: what CoDel drops is not kept.
func TestDropped(t *testing.T) {
	h := hostOf(30, 100)
	a := h.flowOf(key{1, 1, 1})
	for range 30 {
		b, _ := ipwire.Build(api.IP{TTL: 9, Proto: protoTCP, Src: firstIP, Dst: firstIP + 1, Data: make([]byte, 966)})
		frame, _ := ether.Build(api.Ether{Type: typeIP, Data: b})
		h.enqueue(frame, a, 0)
	}
	ids, _, marks := leaves(h, 0, 1000)
	if len(ids) >= 30 || marks != 0 || len(h.parcels) != 0 {
		t.Errorf("%d frames left, %d marked, %d are kept", len(ids), marks, len(h.parcels))
	}
}

// TestFragments: what is too long for the network goes in fragments, all of them
// by its flow.
func TestFragments(t *testing.T) {
	h := hostOf(1, 100)
	b, _ := ether.BuildArp(api.Arp{Op: 2, SrcMac: firstMac + 1, SrcIP: firstIP + 1, DstMac: firstMac, DstIP: firstIP})
	frame, _ := ether.Build(api.Ether{Dst: firstMac, Src: firstMac + 1, Type: 2054, Data: b})
	h.arrive(frame, 0)
	h.output(shard.Packet{Peer: firstIP + 1, Seg: api.Tcp{SrcPort: 1, DstPort: 2, Flags: api.ACK, Data: make([]byte, 1470)}, Rate: 1}, 0)
	f := h.flowOf(key{firstIP + 1, 1, 2})
	same(t, "waiting", []int{f.pace.Len(), h.card.Waiting()}, []int{1, 1})
	h.output(shard.Packet{Peer: firstIP + 1, Seg: api.Tcp{SrcPort: 1, DstPort: 2, Flags: api.ACK, Data: make([]byte, 1460)}, Rate: 1}, 0)
	same(t, "waiting", []int{f.pace.Len(), h.card.Waiting()}, []int{2, 1})
}

func TestMarkFrame(t *testing.T) {
	for tos, want := range map[byte]byte{0: 0, 1: 3, 2: 3, 3: 3, 0xfc: 0xfc, 0xfd: 0xff, 0xfe: 0xff} {
		b, _ := ipwire.Build(api.IP{ID: 7, TOS: tos, TTL: 9, Proto: protoTCP, Options: []byte{1, 1, 1, 0}, Data: []byte("data")})
		frame, _ := ether.Build(api.Ether{Dst: 5, Src: 6, Type: typeIP, Data: b})
		got, changed := markFrame(frame)
		p, ok := packetOf(got)
		if !ok || p.TOS != want || changed != (tos != want) || string(p.Data) != "data" || p.ID != 7 || len(p.Options) != 4 {
			t.Errorf("TOS %d: %+v, %v, %v", tos, p, ok, changed)
		}
	}
	for _, frame := range [][]byte{nil, make([]byte, 13), make([]byte, 60)} {
		if got, changed := markFrame(frame); changed || !reflect.DeepEqual(got, frame) {
			t.Errorf("%v became %v", frame, got)
		}
	}
}
