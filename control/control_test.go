package control_test

import (
	"math"
	"math/rand"
	"slices"
	"testing"

	"stopcock/api"
	"stopcock/bbr"
	"stopcock/control"
	"stopcock/cubic"
	"stopcock/hystart"
	"stopcock/reno"
)

const (
	most    = 1 << 30
	maxTick = 1 << 40
)

func made(t *testing.T, kind, mss int, script ...int) *control.Control {
	t.Helper()
	c, e := control.New(kind, mss, script)
	if c == nil || e != api.OK {
		t.Fatalf("New(%d, %d, %v) = %v, %d", kind, mss, script, c, e)
	}
	return c
}

func answers(t *testing.T, c *control.Control, window, rate int) {
	t.Helper()
	if w, r := c.Window(), c.Rate(); w != window || r != rate {
		t.Errorf("Window, Rate = %d, %d; want %d, %d", w, r, window, rate)
	}
}

func TestExample(t *testing.T) {
	c := made(t, 4, 100, 5, 7, 900)
	answers(t, c, 100, 7)
	c.Ack(1, 1, 1, 1, 1, 1)
	answers(t, c, 900, 0)
}

func TestNewP24_1(t *testing.T) {
	refused := func(kind, mss, n int, want api.Errno) {
		t.Helper()
		if c, e := control.New(kind, mss, make([]int, n)); c != nil || e != want {
			t.Errorf("New(%d, %d, %d numbers) = %v, %d; want %d", kind, mss, n, c, e, want)
		}
	}
	for _, mss := range []int{0, -1, 65536, math.MinInt, math.MaxInt} {
		for _, kind := range []int{0, 1, 2, 3, 4, 5} {
			refused(kind, mss, 0, api.ErrRange)
			refused(kind, mss, 4097, api.ErrRange) // ahead of the others
		}
		for _, inner := range []control.Controller{nil, &recorder{}} {
			if c, e := control.Wrap(inner, mss); c != nil || e != api.ErrRange {
				t.Errorf("Wrap, mss %d: %v, %d", mss, c, e)
			}
		}
	}
	for _, kind := range []int{0, 5, -1, math.MinInt, math.MaxInt} {
		refused(kind, 1000, 0, api.ErrArg)
		refused(kind, 1000, 4097, api.ErrArg)
	}
	for kind := 1; kind <= 4; kind++ {
		refused(kind, 1000, 4097, api.ErrCount)
		for _, mss := range []int{1, 65535} {
			made(t, kind, mss, make([]int, 4096)...)
			made(t, kind, mss)
		}
	}
	if c, e := control.Wrap(nil, 1000); c != nil || e != api.ErrMade {
		t.Errorf("Wrap(nil) = %v, %d", c, e)
	}
	// How each of them begins.
	for _, mss := range []int{1, 1460, 9000, 65535} {
		r, _ := reno.New(mss)
		answers(t, made(t, 1, mss), r.Cwnd, 0)
		answers(t, made(t, 2, mss), r.Cwnd, 0)
		answers(t, made(t, 3, mss), 10*mss, 0)
		answers(t, made(t, 4, mss), mss, 0)
	}
}

func TestNotMade(t *testing.T) {
	for _, c := range []*control.Control{nil, {}} {
		c.Ack(1, 1, 1, 1, 1, 1)
		c.Loss(1)
		c.Timeout(1)
		answers(t, c, 0, 0)
	}
}

func TestScriptP24_1(t *testing.T) {
	numbers := []int{5000, 10, 6000, 20, 7000, 30}
	for _, event := range []func(c *control.Control){
		func(c *control.Control) { c.Ack(1, 1, 1, 1, 1, 1) },
		func(c *control.Control) { c.Ack(0, -5, -9, -1, -1, -1) },
		func(c *control.Control) { c.Loss(5) },
		func(c *control.Control) { c.Timeout(-5) },
	} {
		c := made(t, 4, 1000, numbers...)
		answers(t, c, 5000, 10)
		answers(t, c, 5000, 10) // to ask changes nothing
		event(c)
		answers(t, c, 6000, 20)
		event(c)
		answers(t, c, 7000, 30)
		for range 3 { // the last ones stay
			event(c)
			answers(t, c, 7000, 30)
		}
		c = made(t, 4, 1000, numbers[:5]...)
		event(c)
		answers(t, c, 6000, 20)
		for range 3 {
			event(c)
			answers(t, c, 7000, 0)
		}
		c = made(t, 4, 1000, 5000)
		for range 3 {
			answers(t, c, 5000, 0)
			event(c)
		}
		c = made(t, 4, 1000, 5000, 10)
		for range 3 {
			answers(t, c, 5000, 10)
			event(c)
		}
		c = made(t, 4, 1000)
		for range 3 {
			answers(t, c, 1000, 0)
			event(c)
		}
	}
	// What they answer is held within bounds.
	c := made(t, 4, 1000, 999, -1, 1000, 0, most, most, most+1, most+1, math.MaxInt, math.MaxInt, math.MinInt, math.MinInt, 0, 1)
	for _, x := range [][2]int{{1000, 0}, {1000, 0}, {most, most}, {most, most}, {most, most}, {1000, 0}, {1000, 1}} {
		answers(t, c, x[0], x[1])
		c.Loss(0)
	}
}

// recorder keeps what it is told, and answers what it is to.
type recorder struct {
	told         [][]int
	window, rate int
}

func (r *recorder) Ack(n, now, rtt, rate, round, flight int) {
	r.told = append(r.told, []int{n, now, rtt, rate, round, flight})
}
func (r *recorder) Loss(flight int)    { r.told = append(r.told, []int{1, flight}) }
func (r *recorder) Timeout(flight int) { r.told = append(r.told, []int{2, flight}) }
func (r *recorder) Window() int        { return r.window }
func (r *recorder) Rate() int          { return r.rate }

func (r *recorder) last(t *testing.T, want ...int) {
	t.Helper()
	if len(r.told) == 0 || !slices.Equal(r.told[len(r.told)-1], want) {
		t.Errorf("it was told %v; want %v", r.told, want)
	}
	r.told = nil
}

func wrapped(t *testing.T, mss int) (*control.Control, *recorder) {
	t.Helper()
	r := &recorder{}
	c, e := control.Wrap(r, mss)
	if c == nil || e != api.OK {
		t.Fatal("Wrap:", c, e)
	}
	return c, r
}

// A number out of its range stands for the nearest one within.
func TestNearestP24_2(t *testing.T) {
	c, r := wrapped(t, 1000)
	c.Ack(0, 0, -1, 0, 0, 0)
	r.last(t, 0, 0, -1, 0, 0, 0)
	c.Ack(-1, -1, -2, -1, -1, -1)
	r.last(t, 0, 0, -1, 0, 0, 0)
	c.Ack(math.MinInt, math.MinInt, math.MinInt, math.MinInt, math.MinInt, math.MinInt)
	r.last(t, 0, 0, -1, 0, 0, 0)
	c.Ack(1, 2, 0, 4, 5, 6)
	r.last(t, 1, 2, 0, 4, 5, 6)
	c.Ack(most, 2, most, most, 5, most)
	r.last(t, most, 2, most, most, 5, most)
	c.Ack(most+1, 1, most+1, most+1, 4, most+1) // now and round are at least the last ones
	r.last(t, most, 2, most, most, 5, most)
	c.Ack(7, 10, 8, 9, 3, 10)
	r.last(t, 7, 10, 8, 9, 5, 10)
	c.Ack(7, 9, 8, 9, 6, 10)
	r.last(t, 7, 10, 8, 9, 6, 10)
	c.Ack(7, maxTick, 8, 9, maxTick, 10)
	r.last(t, 7, maxTick, 8, 9, maxTick, 10)
	c.Ack(7, maxTick+1, 8, 9, maxTick+1, 10)
	r.last(t, 7, maxTick, 8, 9, maxTick, 10)
	c.Ack(7, 5, 8, 9, 5, 10)
	r.last(t, 7, maxTick, 8, 9, maxTick, 10)
	c, r = wrapped(t, 1000)
	c.Ack(math.MaxInt, math.MaxInt, math.MaxInt, math.MaxInt, math.MaxInt, math.MaxInt)
	r.last(t, most, maxTick, most, most, maxTick, most)
	for n, want := range map[int]int{0: 0, 5: 5, -1: 0, most: most, most + 1: most, math.MinInt: 0, math.MaxInt: most} {
		c.Loss(n)
		r.last(t, 1, want)
		c.Timeout(n)
		r.last(t, 2, want)
	}
}

func TestBoundsP24_4(t *testing.T) {
	for _, mss := range []int{1, 1000, 65535} {
		c, r := wrapped(t, mss)
		for _, n := range []int{math.MinInt, -1, 0, 1, mss - 1, mss, mss + 1, most - 1, most, most + 1, math.MaxInt} {
			r.window, r.rate = n, n
			answers(t, c, min(most, max(mss, n)), min(most, max(0, n)))
		}
	}
}

// model joins the lower layers' calls by the words.
type model struct {
	kind, mss  int
	reno       reno.State
	cubic      cubic.State
	bbr        bbr.State
	hear       hystart.State
	now, round int
}

func modelOf(kind, mss int) *model {
	m := &model{kind: kind, mss: mss}
	m.reno, _ = reno.New(mss)
	m.cubic, _ = cubic.New(mss)
	return m
}

func within(n, low, high int) int {
	if n < low {
		return low
	}
	if n > high {
		return high
	}
	return n
}

// listens is how HyStart++ hears; it tells n and Thresh.
func (m *model) listens(cwnd, thresh, n, rtt, round int) (int, int) {
	if round > m.round {
		phase := m.hear.Phase
		m.hear, _ = hystart.Round(m.hear)
		if phase == 1 && m.hear.Phase == 2 {
			thresh = cwnd
		}
	}
	if rtt >= 0 {
		m.hear, _ = hystart.Sample(m.hear, rtt)
	}
	if m.hear.Phase == 1 {
		n, _ = hystart.Growth(m.hear, n, m.mss)
	}
	return n, thresh
}

func (m *model) ack(n, now, rtt, rate, round, flight int) {
	n, rate, flight = within(n, 0, most), within(rate, 0, most), within(flight, 0, most)
	now, rtt, round = within(now, m.now, maxTick), within(rtt, -1, most), within(round, m.round, maxTick)
	switch m.kind {
	case 1:
		if m.reno.Cwnd < m.reno.Thresh {
			n, m.reno.Thresh = m.listens(m.reno.Cwnd, m.reno.Thresh, n, rtt, round)
		}
		m.reno, _ = reno.Ack(m.reno, m.mss, n)
	case 2:
		if m.cubic.Cwnd < m.cubic.Thresh {
			n, m.cubic.Thresh = m.listens(m.cubic.Cwnd, m.cubic.Thresh, n, rtt, round)
		}
		time := rtt
		if rtt == -1 {
			time = 0
		}
		m.cubic, _ = cubic.Ack(m.cubic, m.mss, n, now, time)
	case 3:
		e := bbr.Event{Now: now, Round: round, Flight: flight}
		if rate > 0 {
			e.Rate, e.HasRate = rate, true
		}
		if rtt >= 0 {
			e.Rtt, e.HasRtt = rtt, true
		}
		m.bbr, _ = bbr.Ack(m.bbr, m.mss, e)
	}
	m.now, m.round = now, round
}

func (m *model) lose(timeout bool, flight int) {
	m.hear, _ = hystart.Loss(m.hear)
	flight = within(flight, 0, most)
	if timeout {
		m.reno, _ = reno.Timeout(m.reno, m.mss, flight)
		m.cubic, _ = cubic.Timeout(m.cubic, m.mss)
		return
	}
	m.reno, _ = reno.Loss(m.reno, m.mss, flight)
	m.cubic, _ = cubic.Loss(m.cubic, m.mss)
}

func (m *model) answers(t *testing.T, c *control.Control) {
	t.Helper()
	switch m.kind {
	case 1:
		answers(t, c, m.reno.Cwnd, 0)
	case 2:
		answers(t, c, m.cubic.Cwnd, 0)
	case 3:
		w, _ := bbr.Window(m.bbr, m.mss)
		r, _ := bbr.Rate(m.bbr)
		answers(t, c, w, r)
	}
}

func TestModelP24_2(t *testing.T) {
	phases := [3]int{}
	slowEnds := 0
	for seed := range 600 {
		r := rand.New(rand.NewSource(int64(seed)))
		kind, mss := 1+seed%3, 1+r.Intn(3000)
		c, m := made(t, kind, mss), modelOf(kind, mss)
		now, round, base, steeper := 0, 0, 20+r.Intn(200), r.Intn(16)
		for range 300 {
			switch x := r.Intn(400); {
			case x == 0:
				c.Loss(10 * base * mss)
				m.lose(false, 10*base*mss)
			case x == 1:
				c.Timeout(10 * base * mss)
				m.lose(true, 10*base*mss)
			default:
				now += r.Intn(20)
				round += r.Intn(16) / 15
				rtt := base + r.Intn(3) + round*steeper
				if r.Intn(60) == 0 {
					rtt = base
				}
				if r.Intn(10) == 0 {
					rtt = -1
				}
				n, rate, flight := r.Intn(3*mss), r.Intn(100000)*r.Intn(2), r.Intn(30*mss)
				before := m.hear.Phase
				c.Ack(n, now, rtt, rate, round, flight)
				m.ack(n, now, rtt, rate, round, flight)
				if before == 1 && m.hear.Phase == 2 {
					slowEnds++
				}
			}
			phases[m.hear.Phase]++
			m.answers(t, c)
			if t.Failed() {
				t.Fatalf("seed %d, kind %d: %+v", seed, kind, m)
			}
		}
	}
	if phases[0] < 1000 || phases[1] < 1000 || phases[2] < 1000 || slowEnds < 50 {
		t.Error("HyStart++ was too seldom in one of its phases:", phases, slowEnds)
	}
}

// Whatever is told: no panic, what is answered lies within its bounds, and as the lower layers reckon.
func TestWhateverP24_5(t *testing.T) {
	odd := []int{math.MinInt, -2, -1, 0, 1, 2, 65535, most - 1, most, most + 1, maxTick - 1, maxTick, maxTick + 1, math.MaxInt}
	for seed := range 600 {
		r := rand.New(rand.NewSource(int64(seed)))
		kind, mss := 1+seed%4, 1+r.Intn(65535)
		var script []int
		for range r.Intn(9) {
			script = append(script, odd[r.Intn(len(odd))])
		}
		c, m := made(t, kind, mss, script...), modelOf(kind, mss)
		some := func() int {
			if r.Intn(3) == 0 {
				return odd[r.Intn(len(odd))]
			}
			return r.Intn(100000)
		}
		for range 100 {
			switch r.Intn(12) {
			case 0:
				n := some()
				c.Loss(n)
				m.lose(false, n)
			case 1:
				n := some()
				c.Timeout(n)
				m.lose(true, n)
			default:
				n, now, rtt, rate, round, flight := some(), some(), some(), some(), some(), some()
				c.Ack(n, now, rtt, rate, round, flight)
				m.ack(n, now, rtt, rate, round, flight)
			}
			m.answers(t, c)
			if w, x := c.Window(), c.Rate(); w < mss || w > most || x < 0 || x > most {
				t.Fatalf("P24.4: Window, Rate = %d, %d", w, x)
			}
			if t.Failed() {
				t.Fatalf("seed %d, kind %d", seed, kind)
			}
		}
	}
}

// HyStart++ by hand: growth is a fourth in Phase 1, and Thresh is Cwnd behind its rounds.
func TestHystartP24_2(t *testing.T) {
	for kind := 1; kind <= 2; kind++ {
		c := made(t, kind, 1000)
		cwnd := 10000
		ack := func(n, rtt, round, grows int) {
			t.Helper()
			c.Ack(n, 100*round, rtt, 0, round, 0)
			cwnd += grows
			answers(t, c, cwnd, 0)
		}
		for range 8 {
			ack(1000, 100, 1, 1000)
		}
		for range 7 {
			ack(1000, 112, 2, 1000)
		}
		ack(1000, 112, 2, 250) // Phase 1 by this very sample
		ack(1000, -1, 2, 250)
		ack(1003, -1, 2, 250)
		ack(3, -1, 2, 0)
		ack(100000, -1, 2, 1000) // 8 mss by 4 is 2000, of which reno takes mss
		for round := 3; round <= 6; round++ {
			ack(1000, 112, round, 250)
		}
		// The fifth round: slow start is over, ahead of this Ack.
		c.Ack(1000, 700, 112, 0, 7, 0)
		if c.Window()-cwnd > 100 {
			t.Errorf("kind %d: Window grew from %d to %d behind the fifth round", kind, cwnd, c.Window())
		}
		// A Loss ends it, too: no more is heard.
		c, cwnd = made(t, kind, 1000), 10000
		for range 8 {
			ack(1000, 100, 1, 1000)
		}
		c.Timeout(100000)
		cwnd = 1000
		answers(t, c, cwnd, 0)
		for i := range 8 {
			ack(1000, 100, 2, 1000)
			if i == 7 {
				ack(1000, 300, 3, 1000)
			}
		}
	}
}

// A round that was told is none that is new.
func TestRoundsP24_2(t *testing.T) {
	c := made(t, 1, 1000)
	for range 4 {
		c.Ack(0, 0, 100, 0, 5, 0)
	}
	for range 4 {
		c.Ack(0, 0, 100, 0, 3, 0) // stands for round 5
	}
	for range 8 {
		c.Ack(0, 0, 112, 0, 6, 0)
	}
	w := c.Window()
	c.Ack(1000, 0, -1, 0, 6, 0)
	if c.Window() != w+250 {
		t.Errorf("Window went from %d to %d; the rounds were heard otherwise", w, c.Window())
	}
}

// Of BBR losses do nothing.
func TestBbrLossP24_2(t *testing.T) {
	c := made(t, 3, 1000)
	c.Ack(1000, 100, 100, 102400, 1, 0)
	w, r := c.Window(), c.Rate()
	if w != 28867 || r != 102400*739/256 {
		t.Fatal("Window, Rate:", w, r)
	}
	c.Loss(5000)
	c.Timeout(5000)
	answers(t, c, w, r)
	c.Ack(1000, 100, -1, 0, 1, 0) // neither a time nor a rate
	answers(t, c, w, r)
	c.Ack(1000, 100, 0, 0, 1, 0) // a time of 0 is one
	answers(t, c, 4000, r)
}

func TestMemoryP24_6(t *testing.T) {
	script := []int{5000, 10, 6000, 20}
	kept := slices.Clone(script)
	c, _ := control.New(4, 1000, script)
	clear(script)
	answers(t, c, 5000, 10)
	c.Loss(1)
	answers(t, c, 6000, 20)
	d, _ := control.New(4, 1000, kept)
	d.Loss(1)
	if !slices.Equal(kept, []int{5000, 10, 6000, 20}) {
		t.Error("a script was changed:", kept)
	}
	// Two controls share nothing, but a wrapped controller is held as it is.
	for kind := 1; kind <= 4; kind++ {
		a, b := made(t, kind, 1000, kept...), made(t, kind, 1000, kept...)
		w, r := b.Window(), b.Rate()
		for i := range 20 {
			a.Ack(1000, i, 100, 102400, i, 1000)
		}
		a.Loss(1000)
		answers(t, b, w, r)
	}
	inner := &recorder{window: 5000}
	a, _ := control.Wrap(inner, 1000)
	b, _ := control.Wrap(inner, 1000)
	a.Loss(7)
	inner.last(t, 1, 7)
	inner.window = 6000
	answers(t, a, 6000, 0)
	answers(t, b, 6000, 0)
	// A control may be wrapped, too.
	outer, e := control.Wrap(made(t, 4, 1000, 5000, 10, 6000, 20), 5500)
	if e != api.OK {
		t.Fatal("Wrap:", e)
	}
	answers(t, outer, 5500, 10)
	outer.Ack(1, 1, 1, 1, 1, 1)
	answers(t, outer, 6000, 20)
}

// A wrapped controller's own panic is its own.
func TestOwnPanicP24_5(t *testing.T) {
	c, _ := control.Wrap(fussy{}, 1000)
	defer func() {
		if recover() != "fussy" {
			t.Error("the panic is gone")
		}
	}()
	c.Loss(1)
}

type fussy struct{ control.Controller }

func (fussy) Loss(flight int) { panic("fussy") }
