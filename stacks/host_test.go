package stacks

import (
	"reflect"
	"testing"

	"stopcock/api"
	"stopcock/conn"
	"stopcock/ether"
	"stopcock/ipwire"
	"stopcock/rtt"
)

func hostOf(every, limit int) *host {
	return newHost(Config{Shards: 1, MTU: 1500, Every: every, Limit: limit, Quantum: 1000, Conn: conn.Config{MSS: 1000, Send: 1, Recv: 1, Kind: 1,
		Rtt: rtt.Params{Init: 1, Min: 1, Max: 1, Grain: 1}, MSL: 1, Tries: 1}}, 0)
}

// frameOf is a frame of 1000 octets with an ID, of a packet that may be marked.
func frameOf(id uint16) []byte {
	b, _ := ipwire.Build(api.IP{ID: id, TOS: ect, TTL: 9, Proto: protoTCP, Src: firstIP, Dst: firstIP + 1, Data: make([]byte, 966)})
	out, _ := ether.Build(api.Ether{Type: typeIP, Data: b})
	return out
}

func put(h *host, f *flow, now int, ids ...uint16) {
	for _, id := range ids {
		h.enqueue(frameOf(id), f, now)
	}
}

// leaves are the IDs of those that leave a card till a tick, and the ticks.
func leaves(h *host, from, to int) (ids []uint16, ticks []int, marks int) {
	for now := from; now < to; now++ {
		if frame, ok := h.emit(now); ok {
			p, _ := packetOf(frame)
			ids, ticks = append(ids, p.ID), append(ticks, now)
			if p.TOS == ce {
				marks++
			}
		}
	}
	return ids, ticks, marks
}

func same(t *testing.T, what string, got, want any) {
	t.Helper()
	if !reflect.DeepEqual(got, want) {
		t.Errorf("%s: %v; want %v", what, got, want)
	}
}

// TestFairG4: the card takes four ahead; between those that wait behind it the
// queue is fair.
func TestFairG4(t *testing.T) {
	h := hostOf(10, 100)
	a, b := h.flowOf(key{1, 1, 1}), h.flowOf(key{1, 1, 2})
	put(h, a, 0, 1, 2, 3, 4, 5, 6, 7, 8)
	put(h, b, 0, 11, 12, 13)
	ids, ticks, _ := leaves(h, 0, 110)
	same(t, "order", ids, []uint16{1, 2, 3, 4, 11, 5, 12, 6, 13, 7, 8})
	same(t, "ticks", ticks, []int{0, 10, 20, 30, 40, 50, 60, 70, 80, 90, 100})
	same(t, "parcels", len(h.parcels), 0)
}

// TestLimit: the fattest flow pays where all is full.
func TestLimit(t *testing.T) {
	h := hostOf(10, 3)
	a, b := h.flowOf(key{1, 1, 1}), h.flowOf(key{1, 1, 2})
	put(h, a, 0, 1, 2, 3, 4, 5, 6, 7)
	put(h, b, 0, 11)
	same(t, "parcels", len(h.parcels), 3)
	ids, _, _ := leaves(h, 0, 100)
	same(t, "order", ids, []uint16{1, 2, 3, 4, 11, 6, 7})
}

// TestCoDel: what stays too long is marked, not dropped.
func TestCoDel(t *testing.T) {
	h := hostOf(30, 100)
	a := h.flowOf(key{1, 1, 1})
	for id := range uint16(20) {
		put(h, a, 0, id)
	}
	ids, _, marks := leaves(h, 0, 1000)
	same(t, "frames", len(ids), 20)
	if marks < 2 {
		t.Errorf("%d frames were marked", marks)
	}
}

// TestPaceG4: a connection's frames leave by its rate; another one's are not
// held back by them.
func TestPaceG4(t *testing.T) {
	h := hostOf(1, 100)
	a, b := h.flowOf(key{1, 1, 1}), h.flowOf(key{1, 1, 2})
	a.rate = 10240 // a frame in 100 ticks, and a quantum of one ahead at first
	put(h, a, 1000, 1, 2, 3, 4)
	put(h, b, 1000, 11, 12)
	ids, ticks, _ := leaves(h, 1000, 1400)
	same(t, "order", ids, []uint16{1, 2, 11, 12, 3, 4})
	same(t, "ticks", ticks, []int{1000, 1001, 1002, 1003, 1100, 1200})
}

func TestMarkFrame(t *testing.T) {
	for tos, want := range map[byte]byte{0: 0, 1: 3, 2: 3, 3: 3, 0xfc: 0xfc, 0xfd: 0xff, 0xfe: 0xff} {
		b, _ := ipwire.Build(api.IP{ID: 7, TOS: tos, TTL: 9, Proto: protoTCP, Options: []byte{1, 1, 1, 0}, Data: []byte("data")})
		frame, _ := ether.Build(api.Ether{Dst: 5, Src: 6, Type: typeIP, Data: b})
		got, changed := markFrame(frame)
		p, ok := packetOf(got)
		if !ok || p.TOS != want || changed != (tos != want) || string(p.Data) != "data" || p.ID != 7 || len(p.Options) != 4 {
			t.Errorf("TOS %d: %+v, %v, %v", tos, p, ok, changed)
		}
	}
	for _, frame := range [][]byte{nil, make([]byte, 13), make([]byte, 60)} {
		if got, changed := markFrame(frame); changed || !reflect.DeepEqual(got, frame) {
			t.Errorf("%v became %v", frame, got)
		}
	}
}
