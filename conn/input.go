package conn

import (
	"stopcock/api"
	"stopcock/control"
	"stopcock/prr"
	"stopcock/recvbuf"
	"stopcock/rtt"
	"stopcock/scoreboard"
	"stopcock/sendbuf"
	"stopcock/tcpwire"
)

const (
	half     = 1 << 31 // of all sequence numbers, and of all timestamps
	maxScale = 14      // greater ones stand for it
	leastMSS = 536     // of a peer that told none
	noRtt    = -1
	ecnFlags = api.ECE | api.CWR
)

// Input takes a segment; ce says that the network marked its packet.
func (c *Conn) Input(s api.Tcp, ce bool, now int) api.Errno {
	if e := c.goOn(now); e != api.OK {
		return e
	}
	if c.state == closed {
		return api.ErrClosed
	}
	c.now = now
	if c.state == synSent {
		c.greet(s)
	} else {
		c.take(s, ce)
	}
	c.settle()
	return api.OK
}

// greet takes a segment where the peer has not been heard of.
func (c *Conn) greet(s api.Tcp) {
	answers := s.Flags&api.ACK != 0
	if answers && (c.nxt == c.board.Una || s.Ack != c.nxt) {
		if s.Flags&api.RST == 0 {
			c.resets = append(c.resets, s.Ack)
		}
		return
	}
	switch {
	case s.Flags&api.RST != 0 && answers:
		c.end(api.ErrRefused)
	case s.Flags&api.RST != 0 || s.Flags&api.SYN == 0:
	case answers:
		c.agree(s)
		c.establish(s)
		c.receive(s)
	default: // both ends asked at once
		c.agree(s)
		c.state = synReceived
		c.due.syn = true
	}
}

// agree takes what the peer's SYN says.
func (c *Conn) agree(s api.Tcp) {
	c.terms = terms{
		mss: leastMSS, hasMSS: s.MSS > 0,
		scaled: s.HasScale, scale: c.scale, sacks: s.SackOK, stamps: s.HasTS,
		ecn: s.Flags&ecnFlags == ecnFlags,
	}
	if c.hasMSS {
		c.mss = s.MSS
	}
	c.mss = min(c.mss, c.config.MSS)
	if c.scaled {
		c.peerScale = min(max(s.Scale, 0), maxScale)
	}
	c.coming, _ = recvbuf.New(c.config.Recv, s.Seq+1)
	c.control, _ = control.New(c.config.Kind, c.mss, c.config.Script)
	c.recent, c.recentAt = s.TSVal, c.now
	c.toldAck = s.Seq + 1
}

// establish takes the segment that acknowledges the SYN.
func (c *Conn) establish(s api.Tcp) {
	c.due.syn = false
	c.state = established
	if c.shut {
		c.state = finWait1
	}
	c.board, _, _ = scoreboard.Ack(c.board, s.Ack, nil)
	c.grant(s)
	took, _, _ := c.arrivals()
	c.sample(took)
	c.restart()
}

// take takes a segment where both ends were heard of.
func (c *Conn) take(s api.Tcp, ce bool) {
	if !c.isInWindow(s) || c.isElder(s) {
		c.turnAway(s)
		return
	}
	switch {
	case s.Flags&api.RST != 0 && s.Seq == c.next():
		c.end(api.ErrReset)
	case s.Flags&(api.RST|api.SYN) != 0:
		c.due.ack = true
	case s.Flags&api.ACK == 0:
		c.due.ack = c.due.ack || tcpwire.Length(s) > 0
	case c.hear(s):
		c.hearMark(s, ce)
		c.receive(s)
	}
}

// isInWindow says whether one of a segment's sequence numbers is waited for.
func (c *Conn) isInWindow(s api.Tcp) bool {
	size, next := uint32(tcpwire.Length(s)), c.next()
	end := next + uint32(c.coming.Window())
	if size == 0 {
		return s.Seq == next || sendbuf.Within(s.Seq, next, end)
	}
	return sendbuf.Within(s.Seq, next, end) || sendbuf.Within(s.Seq+size-1, next, end)
}

// isElder says whether a segment's timestamp is ahead of one that came. One that
// came half of all timestamps ago says nothing any more.
func (c *Conn) isElder(s api.Tcp) bool {
	return c.stamps && s.HasTS && s.Flags&api.RST == 0 && sendbuf.Less(s.TSVal, c.recent) && c.now-c.recentAt < half
}

// turnAway answers a segment that says nothing.
func (c *Conn) turnAway(s api.Tcp) {
	if s.Flags&api.RST != 0 {
		return
	}
	c.due.ack = true
	c.taken = c.probed && s.Flags&api.ACK != 0 && s.Ack == c.nxt
	if c.state == timeWait && s.Flags&api.FIN != 0 && s.Seq+uint32(tcpwire.Length(s)) == c.next() {
		c.rest()
	}
}

// hear takes what a segment acknowledges. It says whether the segment may go on
// to say more.
func (c *Conn) hear(s api.Tcp) bool {
	if sendbuf.Less(c.nxt, s.Ack) {
		c.due.ack = true
		return false
	}
	if c.state == synReceived {
		if !sendbuf.Less(c.board.Una, s.Ack) {
			c.resets = append(c.resets, s.Ack)
			return false
		}
		c.establish(s)
	} else {
		c.acknowledge(s)
	}
	// What lies behind what was acknowledged last tells no time yet: by that of a
	// segment out of order, those ahead of it would be elder.
	if c.stamps && s.HasTS && !sendbuf.Less(c.toldAck, s.Seq) {
		c.recent, c.recentAt = s.TSVal, c.now
	}
	return true
}

// hearMark takes the network's mark, and the peer's answer to it.
func (c *Conn) hearMark(s api.Tcp, ce bool) {
	if s.Flags&api.CWR != 0 {
		c.echo = false
	}
	c.echo = c.ecn && (c.echo || ce)
}

// acknowledge takes what came at the peer.
func (c *Conn) acknowledge(s api.Tcp) {
	una, flight := c.board.Una, ahead(c.board.Una, c.nxt)
	closedEdge := c.edge == una
	n := c.advance(s)
	c.grant(s)
	moved := c.board.Una != una
	if moved || closedEdge { // the peer is there, though its window may be closed
		c.tries = 0
	}
	c.taken = false
	if moved {
		c.probed = false
		c.restart()
	}
	if c.probed && sendbuf.Less(c.board.Una, c.edge) {
		c.redoProbe()
	}
	c.learn(n)
	c.mendOn(s, n, flight)
	c.finish()
}

// advance lays what came on the scoreboard: how many octets did newly. FIN is
// none.
func (c *Conn) advance(s api.Tcp) int {
	before, end := c.board.Una, c.sending.End()
	ack := sendbuf.Max(before, s.Ack)
	if sendbuf.Less(c.board.Nxt, ack) { // what was sent ahead of time running out has come
		c.board, _ = scoreboard.Sent(c.board, ahead(c.board.Nxt, ack))
	}
	var blocks []api.Block
	if c.sacks {
		blocks = s.Sacks
	}
	var n int
	c.board, n, _ = scoreboard.Ack(c.board, ack, blocks)
	if sendbuf.Less(end, ack) {
		if !sendbuf.Less(end, before) {
			n--
		}
		ack = end
	}
	c.sending.Ack(ack)
	return max(n, 0)
}

// grant takes the right edge that a segment tells. What lies half of all numbers
// behind Una is an edge of long ago.
func (c *Conn) grant(s api.Tcp) {
	una, scale := c.board.Una, c.peerScale
	if s.Flags&api.SYN != 0 {
		scale = 0
	}
	if sendbuf.Less(c.edge, una) {
		c.edge = una
	}
	edge := s.Ack + uint32(s.Window)<<scale
	if edge-una < half && edge-una > c.edge-una {
		c.edge = edge
	}
}

// learn tells the controller of n octets that came newly.
func (c *Conn) learn(n int) {
	took, memo, found := c.arrivals()
	c.sample(took)
	if n == 0 {
		return
	}
	octets := 0
	if found {
		c.rate, octets, _, _ = prr.Deliver(c.rate, memo, n, c.now)
	}
	grow := n
	if c.phase == mending { // what comes while a loss is mended opens no window
		grow = 0
	}
	c.control.Ack(grow, c.now, took, octets, c.rate.Rounds, c.pipe())
}

// sample takes how long an answer took; noRtt is refused.
func (c *Conn) sample(took int) {
	if s, e := rtt.Sample(c.config.Rtt, c.times, took); e == api.OK {
		c.times = s
	}
}

// mendOn goes on with what is done about losses, where flight octets were on
// their way, and n have come newly.
func (c *Conn) mendOn(s api.Tcp, n, flight int) {
	una := c.board.Una
	if c.phase != calm && !sendbuf.Less(una, c.point) {
		c.mend = mend{}
	}
	if c.cut && sendbuf.Less(c.cutAt, una) {
		c.cut = false
	}
	if c.ecn && s.Flags&api.ECE != 0 && !c.cut {
		c.reduce(c.control.Loss, flight)
	}
	if lost, _ := scoreboard.Lost(c.board, c.mss, una); lost && c.phase == calm {
		c.beginMending()
	}
	if c.phase == mending {
		c.pace, c.budget, _ = prr.Ack(c.pace, n, c.pipe(), c.mss)
	}
}

// reduce tells the controller that octets were lost, in one of its ways.
func (c *Conn) reduce(loss func(flight int), flight int) {
	loss(flight)
	c.cut, c.cutAt = true, c.nxt
	c.cwrDue = c.ecn
}

func (c *Conn) beginMending() {
	flight := ahead(c.board.Una, c.nxt)
	c.reduce(c.control.Loss, flight)
	c.mend = mend{phase: mending, point: c.nxt, forced: true}
	c.pace, _ = prr.Start(flight, c.control.Window())
	c.runs = false // what is sent again now has all its time
}

// finish goes on to the next state, if this end's FIN has come.
func (c *Conn) finish() {
	if !c.shut || !sendbuf.Less(c.sending.End(), c.board.Una) {
		return
	}
	switch c.state {
	case finWait1:
		c.state = finWait2
	case closing:
		c.rest()
	case lastAck:
		c.end(api.OK)
	}
}

// receive takes a segment's octets and FIN.
func (c *Conn) receive(s api.Tcp) {
	if c.state == closed {
		return
	}
	c.due.ack = c.due.ack || tcpwire.Length(s) > 0
	if c.finTaken {
		return
	}
	seq, data, fin := s.Seq, s.Data, s.Flags&api.FIN != 0
	if s.Flags&api.SYN != 0 {
		seq++
	}
	if len(data) > api.MaxData {
		data, fin = data[:api.MaxData], false
	}
	if at := seq + uint32(len(data)); fin && !c.finKnown && within(ahead(c.next(), at), 0, c.coming.Window()) {
		c.finKnown, c.finAt = true, at
	}
	if c.finKnown { // nothing lies behind it
		data = data[:min(len(data), max(ahead(seq, c.finAt), 0))]
	}
	c.coming.Insert(seq, data)
	if c.finKnown && ahead(c.finAt, c.coming.Next()) >= 0 {
		c.takeFin()
	}
}

// takeFin takes the peer's FIN, once all ahead of it has come.
func (c *Conn) takeFin() {
	c.finTaken = true
	switch c.state {
	case established:
		c.state = closeWait
	case finWait1:
		c.state = closing
	case finWait2:
		c.rest()
	}
}
