package conn

import (
	"stopcock/api"
	"stopcock/rtt"
	"stopcock/scoreboard"
	"stopcock/sendbuf"
)

// Tick says that it is now: time may run out.
func (c *Conn) Tick(now int) api.Errno {
	if e := c.goOn(now); e != api.OK {
		return e
	}
	c.now = now
	if c.runs && now >= c.at {
		c.expire()
	}
	return api.OK
}

// Next is the tick at which Tick has something to do.
func (c *Conn) Next() (int, bool) {
	if !c.made() || !c.runs {
		return 0, false
	}
	return c.at, true
}

// rto is how long to wait for an answer.
func (c *Conn) rto() int {
	n, _ := rtt.RTO(c.config.Rtt, c.times)
	return n
}

// settle lets the timer run where an answer is waited for, or an edge, and there
// alone.
func (c *Conn) settle() {
	switch {
	case c.state == timeWait:
	case c.state == closed || c.nxt == c.board.Una && !c.isHeld():
		c.runs = false
	case !c.runs:
		c.runs, c.at = true, c.now+c.rto()
	}
}

// isHeld says that there is something to be sent, and the edge lets nothing go.
func (c *Conn) isHeld() bool {
	return c.state >= established && ahead(c.board.Una, c.limit()) > 0 && !sendbuf.Less(c.board.Una, c.edge)
}

// restart lets time begin anew.
func (c *Conn) restart() {
	c.runs, c.tries = false, 0
}

// rest comes to time-wait, or begins it anew.
func (c *Conn) rest() {
	c.state = timeWait
	c.timer = timer{runs: true, at: c.now + 2*c.config.MSL}
}

// expire is what happens when time has run out.
func (c *Conn) expire() {
	if c.state == timeWait {
		c.end(api.OK)
		return
	}
	c.tries++
	if c.tries >= c.config.Tries {
		c.end(api.ErrTimeout)
		return
	}
	c.times, _ = rtt.Back(c.config.Rtt, c.times)
	c.at = c.now + c.rto()
	switch {
	case c.state < established:
		c.due.syn = true
	case c.isHeld():
		c.due.probe = true
		c.rewind() // an octet that probed ahead of this is not on its way any more
	default:
		c.reduce(c.control.Timeout, ahead(c.board.Una, c.nxt))
		c.redo()
	}
}

// rewind takes all that was sent for lost.
func (c *Conn) rewind() {
	c.board, _ = scoreboard.Timeout(c.board)
	c.board.Nxt = c.board.Una
}

// redo begins to send all again that is on its way, as if nothing were.
func (c *Conn) redo() {
	c.rewind()
	c.mend = mend{phase: redoing, point: c.nxt}
}

// redoProbe sends the octet again that probed, now that the edge lets it go: the
// peer may have had no room for it.
func (c *Conn) redoProbe() {
	c.probed = false
	c.times.Back = 0
	c.restart()
	c.redo()
}
