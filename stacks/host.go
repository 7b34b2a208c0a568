package stacks

import (
	"slices"

	"stopcock/api"
	"stopcock/codel"
	"stopcock/ether"
	"stopcock/fqcodel"
	"stopcock/ipnet"
	"stopcock/ipwire"
	"stopcock/octets"
	"stopcock/pacer"
	"stopcock/rings"
	"stopcock/shard"
	"stopcock/sock"
	"stopcock/tcpwire"
	"stopcock/toeplitz"
)

const (
	firstIP  = 10<<24 + 1
	netBits  = 24
	firstMac = 1
	never    = 1 << 30 // an address that is known stays so
	again    = 20      // ticks till it is asked for again
	patience = 1000    // for fragments
	hashKey  = "6d5a56da255b0ec24167253d43a38fb0d0ca2bcbae7b30b477cb2da38030f20c6a42b73bbeac01fa"

	leastDepth = 4
	depthTicks = 32 // for so long the card may give out what it took ahead

	overhead = 52 // octets of IP's header, and of TCP's with timestamps
	headSize = 14 // of Ethernet's

	target   = 5 // CoDel's ticks
	interval = 100

	maxRate = 1 << 30 // of octets in 1024 ticks

	protoTCP = 6
	typeIP   = 2048
	portSize = 2

	ecnBits = 3
	notECT  = 0
	ect     = 2
	ce      = 3

	timeWait = 9
)

// socket is one that the script made.
type socket struct {
	id    int
	joins bool // it is a connection's
	gone  bool
	wrote []byte
	read  []byte
}

// key is what a connection is known by.
type key struct {
	peer     uint32
	port     uint16
	peerPort uint16
}

// flow is a connection's way out.
type flow struct {
	number int // in the fair queue
	rate   int
	pace   *pacer.Pacer
}

// parcel is a frame that waits in the fair queue, or for its departure.
type parcel struct {
	frame []byte
	flow  *flow
}

// host is a whole one.
type host struct {
	ip      uint32
	peer    uint32
	quantum int
	depth   int // how many frames the card takes ahead
	count   int // shards
	key     []byte
	table   []int
	card    *rings.Card
	net     *ipnet.Host
	queue   *fqcodel.Queue
	set     *shard.Set
	parcels map[int]parcel
	ids     int
	found   map[key]*flow
	flows   []*flow // the first one has what is no connection's
	socks   []*socket
	from    uint16 // the port that is next tried to connect from
}

// newHost makes a host by settings that may be, so that no call in it finds a
// fault.
func newHost(c Config, place int) *host {
	h := &host{ip: uint32(firstIP + place), peer: uint32(firstIP + 1 - place), quantum: c.Quantum, count: c.Shards, from: api.LowPort,
		parcels: map[int]parcel{}, found: map[key]*flow{}}
	h.key, _, _ = octets.Unhex(hashKey)
	for i := range api.TableSize {
		h.table = append(h.table, i%c.Shards)
	}
	h.addFlow()
	h.depth = max(leastDepth, depthTicks/c.Every)
	h.card, _ = rings.New(rings.Config{Key: h.key, Table: h.table, Size: api.MaxRing, Every: c.Every})
	h.net, _ = ipnet.New(ipnet.Config{Mac: uint64(firstMac + place), IP: h.ip, Bits: netBits, MTU: c.MTU, Age: never, Again: again, Patience: patience})
	h.queue, _ = fqcodel.New(fqcodel.Config{Flows: api.MaxFlows, Limit: c.Limit, Quantum: c.Quantum,
		CoDel: codel.Params{Target: target, Interval: interval, MTU: c.MTU + headSize}})
	c.Conn.MSS = min(c.Conn.MSS, c.MTU-overhead)
	h.set, _ = shard.New(shard.Config{Shards: c.Shards, Key: h.key, Table: h.table,
		Stack: sock.Config{IP: h.ip, Conn: c.Conn, Most: api.MaxSocks}})
	return h
}

// add lays a socket behind the others, and tells its place.
func (h *host) add(id int, joins bool) Answer {
	h.socks = append(h.socks, &socket{id: id, joins: joins})
	return Answer{N: len(h.socks) - 1}
}

func (h *host) listen(port int) Answer {
	if !within(port, 0, maxPort) {
		return Answer{Err: api.ErrArg}
	}
	id, e := h.set.Listen(uint16(port), backlog)
	if e != api.OK {
		return Answer{Err: e}
	}
	return h.add(id, false)
}

// connect asks the other host for a connection, from a port that was not used
// yet.
func (h *host) connect(which, port, now int) Answer {
	if !within(port, 0, maxPort) {
		return Answer{Err: api.ErrArg}
	}
	own := h.from
	if within(which, 0, h.count-1) { // what is wrong with another one Connect tells
		own, _ = toeplitz.Port(h.key, h.table, h.ip, h.peer, uint16(port), which, own)
	}
	id, e := h.set.Connect(which, h.peer, uint16(port), own, now)
	if e != api.OK {
		return Answer{Err: e}
	}
	h.from = max(own+1, api.LowPort)
	return h.add(id, true)
}

func (h *host) accept(s *socket) Answer {
	id, e := h.set.Accept(s.id)
	if e != api.OK {
		return Answer{Err: e}
	}
	return h.add(id, true)
}

func (h *host) write(s *socket, b []byte) Answer {
	n, e := h.set.Write(s.id, b)
	s.wrote = append(s.wrote, b[:n]...)
	return Answer{Err: e, N: n}
}

func (h *host) read(s *socket, n int) Answer {
	b, e := h.set.Read(s.id, n)
	s.read = append(s.read, b...)
	return Answer{Err: e, N: len(b), Data: b}
}

func (h *host) close(s *socket) api.Errno {
	s.gone = true
	return h.set.Close(s.id)
}

// readAll reads all that has come.
func (h *host) readAll() {
	for _, s := range h.socks {
		if s.joins && !s.gone {
			h.read(s, api.MaxBuffer)
		}
	}
}

// runSome runs so many shards, one after another.
func (h *host) runSome(turns, first, now int) Answer {
	if !within(turns, 0, maxTurns) || first < 0 {
		return Answer{Err: api.ErrArg}
	}
	for i := range turns {
		sent, _ := h.set.Run((first%h.count+i)%h.count, now)
		for _, p := range sent {
			h.output(p, now)
		}
	}
	return Answer{}
}

// output puts out what a shard sends. Both ends always agree upon ECN, so that
// data may be marked instead of lost.
func (h *host) output(p shard.Packet, now int) {
	f := h.flowOf(key{p.Peer, p.Seg.SrcPort, p.Seg.DstPort})
	f.rate = p.Rate
	var tos byte = notECT
	if len(p.Seg.Data) > 0 {
		tos = ect
	}
	b, _ := tcpwire.Build(p.Seg, h.ip, p.Peer)
	out, _ := h.net.Output(p.Peer, protoTCP, tos, false, b, now)
	for _, frame := range out.Frames {
		h.enqueue(frame, f, now)
	}
}

// arrive takes a frame from the network.
func (h *host) arrive(frame []byte, now int) {
	queue, e := h.card.Receive(frame)
	if e != api.OK {
		return
	}
	frame, _ = h.card.Take(queue)
	out, _ := h.net.Input(frame, now)
	for _, frame := range out.Frames {
		h.enqueue(frame, h.flowBy(frame), now)
	}
	for _, g := range out.Got {
		if seg, e := tcpwire.Parse(g.Data, g.Src, h.ip); e == api.OK {
			h.set.Mail(g.Src, seg, g.TOS&ecnBits == ce)
		}
	}
}

// enqueue lays a frame into the fair queue.
func (h *host) enqueue(frame []byte, f *flow, now int) {
	p, isPacket := packetOf(frame)
	if !isPacket { // a question of ARP is no connection's
		f = h.flows[0]
	}
	id := h.ids
	h.ids++
	h.parcels[id] = parcel{frame, f}
	dropped, _ := h.queue.Enqueue(f.number, api.Packet{At: now, Size: len(frame), ECT: isECT(p.TOS), ID: id})
	h.drop(dropped)
	h.fill(now)
}

func (h *host) drop(l []api.Packet) {
	for _, p := range l {
		delete(h.parcels, p.ID)
	}
}

// emit is the frame that leaves the card at now, if one does.
func (h *host) emit(now int) ([]byte, bool) {
	for _, f := range h.flows {
		h.release(f, now)
	}
	h.fill(now)
	frame, ok, _ := h.card.Emit(now)
	return frame, ok
}

// fill lets frames go on to the card, as many as it takes ahead; the others wait
// where it is fair.
func (h *host) fill(now int) {
	for h.card.Waiting() < h.depth && h.pull(now) {
	}
}

// release hands those frames to the card whose departure has come.
func (h *host) release(f *flow, now int) {
	ids, _ := f.pace.Release(now)
	for _, id := range ids {
		h.hand(id)
	}
}

func (h *host) hand(id int) {
	h.card.Send(h.parcels[id].frame)
	delete(h.parcels, id)
}

// pull takes a frame out of the fair queue, towards its departure; false, if
// there is none.
func (h *host) pull(now int) bool {
	if slices.ContainsFunc(h.flows, func(f *flow) bool { return f.pace.Len() >= api.MaxTimers }) {
		return false
	}
	r, _ := h.queue.Dequeue(now)
	h.drop(r.Dropped)
	if !r.Has {
		return false
	}
	x := h.parcels[r.Out.ID]
	if r.Marked {
		x.frame, _ = markFrame(x.frame)
		h.parcels[r.Out.ID] = x
	}
	rate := x.flow.rate
	if rate == 0 && x.flow.pace.Len() == 0 { // as fast as may be
		h.hand(r.Out.ID)
		return true
	}
	if rate == 0 { // behind those that wait
		rate = maxRate
	}
	x.flow.pace.Push(r.Out.ID, r.Out.Size, rate, h.quantum, now)
	h.release(x.flow, now)
	return true
}

// isQuiet says that nothing is to be sent.
func (h *host) isQuiet() bool {
	if len(h.parcels) > 0 || h.card.Waiting() > 0 {
		return false
	}
	for which := range h.count {
		if h.set.Waiting(which) > 0 {
			return false
		}
	}
	return !slices.ContainsFunc(h.socks, h.isBusy)
}

func (h *host) isBusy(s *socket) bool {
	if !s.joins || s.gone {
		return false
	}
	i, _ := h.set.Info(s.id)
	return !i.Asleep && i.State != timeWait
}

// addFlow makes a flow. Where there are more than the fair queue has, some share
// one; the first one is nobody's.
func (h *host) addFlow() *flow {
	f := &flow{pace: pacer.New()}
	if n := len(h.flows); n > 0 {
		f.number = 1 + (n-1)%(api.MaxFlows-1)
	}
	h.flows = append(h.flows, f)
	return f
}

// flowOf is a connection's flow.
func (h *host) flowOf(k key) *flow {
	f, ok := h.found[k]
	if !ok {
		f = h.addFlow()
		h.found[k] = f
	}
	return f
}

// flowBy is the flow of a frame that did not come of a shard just now.
func (h *host) flowBy(frame []byte) *flow {
	p, isPacket := packetOf(frame)
	if !isPacket || p.Proto != protoTCP || p.Offset != 0 || len(p.Data) < 2*portSize {
		return h.flows[0]
	}
	port := func(at int) uint16 {
		n, _ := octets.Get(p.Data[at : at+portSize])
		return uint16(n)
	}
	return h.flowOf(key{p.Dst, port(0), port(portSize)})
}

// packetOf is the IPv4 packet in a frame.
func packetOf(frame []byte) (api.IP, bool) {
	f, e := ether.Parse(frame)
	if e != api.OK || f.Type != typeIP {
		return api.IP{}, false
	}
	p, e := ipwire.Parse(f.Data)
	return p, e == api.OK
}

func isECT(tos byte) bool {
	return tos&ecnBits != notECT && tos&ecnBits != ce
}

// markFrame is a frame whose packet says CE, if it said ECT.
func markFrame(frame []byte) ([]byte, bool) {
	p, isPacket := packetOf(frame)
	if !isPacket || !isECT(p.TOS) {
		return frame, false
	}
	p.TOS |= ce
	f, _ := ether.Parse(frame)
	f.Data, _ = ipwire.Build(p)
	out, _ := ether.Build(f)
	return out, true
}
