package conn

import (
	"math"

	"stopcock/api"
	"stopcock/prr"
	"stopcock/scoreboard"
	"stopcock/sendbuf"
)

const maxStamped = 3 // blocks that fit beside timestamps

// flight is octets that were sent, and what is remembered of it.
type flight struct {
	left  uint32
	right uint32
	memo  prr.Sent
	again bool // they were sent more than once
	came  bool
}

// output is a call of Out on its way.
type output struct {
	*Conn
	told []api.Tcp
}

// Out tells what may be sent now.
func (c *Conn) Out(now int) ([]api.Tcp, api.Errno) {
	if e := c.goOn(now); e != api.OK {
		return nil, e
	}
	c.now = now
	o := output{Conn: c}
	o.tellAll()
	c.settle()
	return o.told, api.OK
}

func (o *output) tellAll() {
	for _, seq := range o.resets {
		o.told = append(o.told, api.Tcp{SrcPort: o.config.SrcPort, DstPort: o.config.DstPort, Seq: seq, Flags: api.RST})
	}
	o.resets = nil
	switch {
	case o.due.syn:
		o.tellSyn()
	case o.state >= established:
		o.tellAgain()
		o.tellMended(false)
		o.tellNew()
		o.tellMended(true)
		o.tellProbe()
	}
	if o.due.ack {
		o.tell(o.tellable(), nil, 0)
	}
}

// tell tells a segment.
func (o *output) tell(seq uint32, data []byte, flags byte) {
	s := api.Tcp{SrcPort: o.config.SrcPort, DstPort: o.config.DstPort, Seq: seq, Flags: flags, Data: data}
	s.Window = o.window()
	if o.stamps {
		s.HasTS, s.TSVal = true, uint32(o.now)
	}
	if o.state != synSent {
		s.Flags |= api.ACK
		o.answer(&s)
	}
	if s.Flags&api.SYN != 0 {
		o.offer(&s)
	}
	o.toldWin = s.Window
	o.told = append(o.told, s)
}

// answer tells what came.
func (o *output) answer(s *api.Tcp) {
	s.Ack = o.next()
	if o.stamps {
		s.TSEcr = o.recent
	}
	if o.sacks {
		s.Sacks = o.coming.Blocks()
	}
	if o.stamps && len(s.Sacks) > maxStamped {
		s.Sacks = s.Sacks[:maxStamped]
	}
	if o.echo {
		s.Flags |= api.ECE
	}
	o.toldAck = s.Ack
	o.due.ack = false
}

// offer tells what this end asks for, or agrees upon. The window of a SYN is
// never scaled.
func (o *output) offer(s *api.Tcp) {
	s.Window = uint16(min(o.coming.Window(), math.MaxUint16))
	if o.hasMSS {
		s.MSS = o.config.MSS
	}
	if o.scaled {
		s.HasScale, s.Scale = true, o.scale
	}
	s.SackOK = o.sacks
	if o.ecn {
		s.Flags |= ecnFlags
	}
}

func (o *output) tellSyn() {
	o.due.syn = false
	o.note(o.config.ISS, 1)
	if o.nxt == o.config.ISS {
		o.board, _ = scoreboard.Sent(o.board, 1)
		o.nxt++
	}
	o.tell(o.config.ISS, nil, api.SYN)
}

// tellAgain sends again what was sent ahead of time running out.
func (o *output) tellAgain() {
	for o.board.Nxt != o.nxt {
		n := o.send(o.board.Nxt, o.nxt)
		if n == 0 {
			return
		}
		o.board, _ = scoreboard.Sent(o.board, n)
	}
}

// tellMended sends again what the scoreboard tells.
func (o *output) tellMended(rescue bool) {
	for o.phase == mending {
		b, ok, _ := scoreboard.Next(o.board, o.mss, rescue)
		if !ok {
			return
		}
		n := o.send(b.Left, b.Right)
		if n == 0 {
			return
		}
		o.board, _ = scoreboard.Resent(o.board, b.Left+uint32(n))
	}
}

// tellNew sends what was never sent.
func (o *output) tellNew() {
	for o.board.Nxt == o.nxt {
		o.forced = false
		n := o.send(o.nxt, o.limit())
		if n == 0 {
			return
		}
		o.board, _ = scoreboard.Sent(o.board, n)
		o.nxt += uint32(n)
	}
}

// tellProbe sends an octet beyond the edge, so that the peer tells where it is.
func (o *output) tellProbe() {
	if !o.due.probe {
		return
	}
	o.due.probe = false
	if !o.isHeld() {
		return
	}
	una, answer := o.board.Una, o.due.ack
	o.emit(una, min(1, ahead(una, o.sending.End())), una == o.sending.End())
	o.due.ack = answer // the peer hears no answer of a segment that it has no room for
	o.board, _ = scoreboard.Sent(o.board, 1)
	o.nxt = sendbuf.Max(o.nxt, una+1)
	o.probed = true
}

// send sends octets from seq on, ahead of to, as many as a segment takes, the
// edge lets go and the window allows: how many.
func (o *output) send(seq, to uint32) int {
	room := min(ahead(seq, to), ahead(seq, o.edge), o.allowed())
	if room <= 0 {
		return 0
	}
	left := ahead(seq, o.sending.End())
	data := min(room, o.mss, left)
	fin := o.shut && data == left && room > data
	o.emit(seq, data, fin)
	if fin {
		return data + 1
	}
	return data
}

// allowed is how many octets more may be on their way.
func (o *output) allowed() int {
	if o.forced {
		return o.mss
	}
	n := o.control.Window() - o.pipe()
	if o.phase == mending {
		n = min(n, o.budget)
	}
	return n
}

// emit tells a segment with octets, or FIN.
func (o *output) emit(seq uint32, size int, fin bool) {
	data, _ := o.sending.Slice(seq, size)
	var flags byte
	if fin {
		flags |= api.FIN
		size++
	}
	if o.cwrDue && seq == o.nxt && len(data) > 0 {
		flags |= api.CWR
		o.cwrDue = false
	}
	o.note(seq, size)
	if o.phase == mending {
		o.pace, _ = prr.Spent(o.pace, size)
		o.budget -= size
	}
	o.forced = false
	o.tell(seq, data, flags)
}

// note remembers that size octets from seq on are sent.
func (o *output) note(seq uint32, size int) {
	var memo prr.Sent
	o.rate, memo, _ = prr.Send(o.rate, o.now, o.pipe() == 0)
	right := seq + uint32(size)
	if !sendbuf.Less(seq, o.nxt) {
		o.flying = append(o.flying, flight{left: seq, right: right, memo: memo})
		return
	}
	for i := range o.flying {
		f := &o.flying[i]
		if sendbuf.Less(f.left, right) && sendbuf.Less(seq, f.right) {
			f.memo, f.again, f.came = memo, true, false
		}
	}
}

// arrivals looks for what came newly. It tells how long the answer took of what
// was sent last of it, and once, and what is remembered of what was sent last.
func (c *Conn) arrivals() (int, prr.Sent, bool) {
	took, found := noRtt, false
	var latest prr.Sent
	blocks, una := c.board.Sacked, c.board.Una
	for i := range c.flying {
		f := &c.flying[i]
		for len(blocks) > 0 && !sendbuf.Less(f.left, blocks[0].Right) {
			blocks = blocks[1:]
		}
		inBlock := len(blocks) > 0 && !sendbuf.Less(f.left, blocks[0].Left) && !sendbuf.Less(blocks[0].Right, f.right)
		if f.came || sendbuf.Less(una, f.right) && !inBlock {
			continue
		}
		f.came = true
		if !f.again {
			took = c.now - f.memo.Left
		}
		if !found || f.memo.Left >= latest.Left {
			found, latest = true, f.memo
		}
	}
	for len(c.flying) > 0 && !sendbuf.Less(una, c.flying[0].right) {
		c.flying = c.flying[1:]
	}
	return took, latest, found
}
