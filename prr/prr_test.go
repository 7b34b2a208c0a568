package prr_test

import (
	"math"
	"math/big"
	"math/rand"
	"testing"

	"stopcock/api"
	"stopcock/prr"
)

const (
	maxTick = 1 << 40
	most    = 1 << 30
)

func started(t *testing.T, flight, thresh int) prr.State {
	t.Helper()
	s, e := prr.Start(flight, thresh)
	if s != (prr.State{Thresh: thresh, Flight: flight}) || e != api.OK {
		t.Fatalf("Start(%d, %d) = %+v, %d", flight, thresh, s, e)
	}
	return s
}

func acked(t *testing.T, s prr.State, n, pipe, mss int, want prr.State, allowed int, fault api.Errno) {
	t.Helper()
	if got, m, e := prr.Ack(s, n, pipe, mss); got != want || m != allowed || e != fault {
		t.Errorf("Ack(%+v, %d, %d, %d) = %+v, %d, %d; want %+v, %d, %d", s, n, pipe, mss, got, m, e, want, allowed, fault)
	}
}

func spent(t *testing.T, s prr.State, n int, want prr.State, fault api.Errno) {
	t.Helper()
	if got, e := prr.Spent(s, n); got != want || e != fault {
		t.Errorf("Spent(%+v, %d) = %+v, %d; want %+v, %d", s, n, got, e, want, fault)
	}
}

func sent(t *testing.T, r prr.Rate, now int, idle bool, want prr.Rate, p prr.Sent, fault api.Errno) {
	t.Helper()
	if got, q, e := prr.Send(r, now, idle); got != want || q != p || e != fault {
		t.Errorf("Send(%+v, %d, %v) = %+v, %+v, %d; want %+v, %+v, %d", r, now, idle, got, q, e, want, p, fault)
	}
}

func delivered(t *testing.T, r prr.Rate, p prr.Sent, n, now int, want prr.Rate, rate int, ok bool, fault api.Errno) {
	t.Helper()
	if got, x, is, e := prr.Deliver(r, p, n, now); got != want || x != rate || is != ok || e != fault {
		t.Errorf("Deliver(%+v, %+v, %d, %d) = %+v, %d, %v, %d; want %+v, %d, %v, %d", r, p, n, now, got, x, is, e, want, rate, ok, fault)
	}
}

func TestExample(t *testing.T) {
	s := started(t, 10000, 5000)
	acked(t, s, 1000, 9000, 1000, prr.State{Thresh: 5000, Flight: 10000, Delivered: 1000}, 500, api.OK)
	s, _, _ = prr.Ack(s, 1000, 9000, 1000)
	s, _ = prr.Spent(s, 500)
	acked(t, s, 1000, 8000, 1000, prr.State{Thresh: 5000, Flight: 10000, Delivered: 2000, Out: 500}, 500, api.OK)
}

func TestStartP19_1(t *testing.T) {
	for _, n := range []int{1, 2, most} {
		started(t, n, 1)
		started(t, 1, n)
	}
	for _, n := range []int{0, -1, most + 1, math.MinInt, math.MaxInt} {
		for _, x := range [][2]int{{n, 1}, {1, n}} {
			if s, e := prr.Start(x[0], x[1]); s != (prr.State{}) || e != api.ErrRange {
				t.Errorf("Start(%v) = %+v, %d; want ErrRange", x, s, e)
			}
		}
	}
}

func TestStateP19_1(t *testing.T) {
	good := prr.State{Thresh: 5, Flight: 9, Delivered: 3, Out: 2}
	refused := func(s prr.State) {
		t.Helper()
		acked(t, s, 1, 1, 1, prr.State{}, 0, api.ErrState)
		acked(t, s, -1, 1, 1, prr.State{}, 0, api.ErrState) // ahead of ErrRange
		spent(t, s, 1, prr.State{}, api.ErrState)
		spent(t, s, -1, prr.State{}, api.ErrState)
	}
	for _, n := range []int{0, -1, most + 1, math.MinInt, math.MaxInt} {
		s := good
		s.Thresh = n
		refused(s)
		s = good
		s.Flight = n
		refused(s)
	}
	for _, n := range []int{-1, 1<<31 + 1, math.MinInt, math.MaxInt} {
		s := good
		s.Delivered = n
		refused(s)
		s = good
		s.Out = n
		refused(s)
	}
	for _, s := range []prr.State{{Thresh: 1, Flight: 1}, {Thresh: most, Flight: most, Delivered: 1 << 31, Out: 1 << 31}} {
		spent(t, s, 0, s, api.OK)
	}
}

func TestRangeP19_1(t *testing.T) {
	s := prr.State{Thresh: 5, Flight: 9, Delivered: 3, Out: 2}
	for _, n := range []int{-1, most + 1, math.MinInt, math.MaxInt} {
		acked(t, s, n, 1, 1, prr.State{}, 0, api.ErrRange)
		acked(t, s, 1, n, 1, prr.State{}, 0, api.ErrRange)
		spent(t, s, n, prr.State{}, api.ErrRange)
	}
	for _, n := range []int{0, -1, 65536, math.MinInt, math.MaxInt} {
		acked(t, s, 1, 1, n, prr.State{}, 0, api.ErrRange)
	}
	for _, n := range []int{0, most} {
		spent(t, s, n, prr.State{Thresh: 5, Flight: 9, Delivered: 3, Out: 2 + n}, api.OK)
	}
}

func TestAckP19_1(t *testing.T) {
	for _, x := range []struct {
		thresh, flight, delivered, out int
		n, pipe, mss, want             int
	}{
		// More on their way than are to be: in proportion, rounded up.
		{5000, 10000, 0, 0, 1000, 5001, 100, 500},
		{5000, 10000, 0, 0, 1001, 9000, 100, 501},
		{5000, 10000, 0, 0, 1, 9000, 100, 1},
		{5000, 10000, 0, 0, 0, 9000, 100, 0},
		{5000, 10000, 1000, 500, 1, 9000, 100, 1},
		{5000, 10000, 1000, 501, 1, 9000, 100, 0},
		{5000, 10000, 1000, 502, 1, 9000, 100, 0},
		{5000, 10000, 1000, 9000, 1, 9000, 100, 0},
		{7000, 10000, 99, 0, 1, 9000, 100, 70},
		{7000, 10000, 100, 0, 1, 9000, 100, 71},
		{2, 3, 0, 0, 1, 3, 1, 1},
		{2, 3, 1, 1, 1, 3, 1, 1},
		{2, 3, 2, 2, 1, 3, 1, 0},
		{9, 3, 2, 2, 1, 10, 1, 7},
		{most, most, most, 0, most, most, 1, 0}, // pipe is not above
		{most - 1, most, most, 0, most, most, 1, 1<<31 - 2},
		// Up to Thresh, by at most mss more than came.
		{5000, 10000, 0, 0, 1000, 5000, 100, 0},
		{5000, 10000, 0, 0, 1000, 4999, 100, 1},
		{5000, 10000, 0, 0, 1000, 3901, 100, 1099},
		{5000, 10000, 0, 0, 1000, 3900, 100, 1100},
		{5000, 10000, 0, 0, 1000, 3899, 100, 1100},
		{5000, 10000, 500, 0, 1000, 0, 100, 1600},   // Delivered - Out
		{5000, 10000, 500, 500, 1000, 0, 100, 1100}, // as good
		{5000, 10000, 500, 501, 1000, 0, 100, 1100}, // n
		{5000, 10000, 500, 9000, 1000, 0, 100, 1100},
		{5000, 10000, 500, 9000, 0, 0, 100, 100},
		{5000, 10000, 500, 450, 0, 0, 100, 150},
		{100, 10000, 500, 450, 0, 30, 100, 70},
		{1, 1, 0, 0, 0, 0, 1, 1},
	} {
		s := prr.State{Thresh: x.thresh, Flight: x.flight, Delivered: x.delivered, Out: x.out}
		w := s
		w.Delivered += x.n
		acked(t, s, x.n, x.pipe, x.mss, w, x.want, api.OK)
	}
	// Delivered goes up to 2^31, Out too.
	s := prr.State{Thresh: most, Flight: most, Delivered: 1<<31 - 5, Out: 1<<31 - 5}
	for _, n := range []int{4, 5, 6, most} {
		w := s
		w.Delivered += min(n, 5)
		acked(t, s, n, most, 1, w, 0, api.OK)
		acked(t, s, n, 0, 1, w, n+1-max(0, n-most+1), api.OK)
		w = s
		w.Out += min(n, 5)
		spent(t, s, n, w, api.OK)
	}
	acked(t, prr.State{Thresh: 1, Flight: 2, Delivered: 1 << 31}, most, 2, 1, prr.State{Thresh: 1, Flight: 2, Delivered: 1 << 31}, most, api.OK)
}

func TestModelP19_1(t *testing.T) {
	for seed := range 30000 {
		r := rand.New(rand.NewSource(int64(seed)))
		size := func(top int) int { return min(top, (1+r.Intn(top))>>r.Intn(31)) }
		s := prr.State{Thresh: max(1, size(most)), Flight: max(1, size(most)), Delivered: size(1 << 31), Out: size(1 << 31)}
		n, pipe, mss := size(most), size(most), 1+r.Intn(65535)
		w := s
		w.Delivered = min(s.Delivered+n, 1<<31)
		want := 0
		if pipe > s.Thresh {
			x := new(big.Int).Mul(big.NewInt(int64(w.Delivered)), big.NewInt(int64(s.Thresh)))
			q, m := x.QuoRem(x, big.NewInt(int64(s.Flight)), new(big.Int))
			want = int(q.Int64()) - s.Out
			if m.Sign() > 0 {
				want++
			}
		} else {
			limit := n
			if w.Delivered-s.Out > limit {
				limit = w.Delivered - s.Out
			}
			want = s.Thresh - pipe
			if limit+mss < want {
				want = limit + mss
			}
		}
		if want < 0 {
			want = 0
		}
		acked(t, s, n, pipe, mss, w, want, api.OK)
		if t.Failed() {
			t.Fatal("seed", seed)
		}
	}
}

// All that Acks allow stays within what came, in proportion, and a bit.
func TestAllowedP19_3(t *testing.T) {
	for seed := range 500 {
		r := rand.New(rand.NewSource(int64(seed)))
		flight, thresh, mss := 1+r.Intn(100000), 1+r.Intn(100000), 1+r.Intn(2000)
		s := started(t, flight, thresh)
		for acks := 1; acks <= 60; acks++ {
			var n int
			var e api.Errno
			s, n, e = prr.Ack(s, r.Intn(3000), r.Intn(2*thresh), mss)
			if e != api.OK || n < 0 {
				t.Fatal("Ack:", n, e)
			}
			s, e = prr.Spent(s, n)
			if e != api.OK {
				t.Fatal("Spent:", e)
			}
			if s.Out > s.Delivered*thresh/flight+1+s.Delivered+acks*mss {
				t.Fatalf("seed %d: %+v behind %d Acks, mss %d", seed, s, acks, mss)
			}
		}
	}
}

func TestSendP19_2(t *testing.T) {
	r := prr.Rate{Delivered: 100, At: 20, First: 10, Rounds: 3, Mark: 70}
	sent(t, r, 25, false, r, prr.Sent{Delivered: 100, At: 20, First: 10, Left: 25}, api.OK)
	sent(t, r, 5, false, r, prr.Sent{Delivered: 100, At: 20, First: 10, Left: 5}, api.OK)
	w := prr.Rate{Delivered: 100, At: 25, First: 25, Rounds: 3, Mark: 70}
	sent(t, r, 25, true, w, prr.Sent{Delivered: 100, At: 25, First: 25, Left: 25}, api.OK)
	sent(t, prr.Rate{}, 0, true, prr.Rate{}, prr.Sent{}, api.OK)
	sent(t, prr.Rate{}, maxTick, true, prr.Rate{At: maxTick, First: maxTick}, prr.Sent{At: maxTick, First: maxTick, Left: maxTick}, api.OK)
	for _, n := range []int{-1, maxTick + 1, math.MinInt, math.MaxInt} {
		sent(t, r, n, false, prr.Rate{}, prr.Sent{}, api.ErrRange)
		sent(t, r, n, true, prr.Rate{}, prr.Sent{}, api.ErrRange)
	}
}

func TestRateMayBeP19_2(t *testing.T) {
	set := []func(r *prr.Rate, n int){
		func(r *prr.Rate, n int) { r.Delivered = n },
		func(r *prr.Rate, n int) { r.At = n },
		func(r *prr.Rate, n int) { r.First = n },
		func(r *prr.Rate, n int) { r.Rounds = n },
		func(r *prr.Rate, n int) { r.Mark = n },
	}
	for _, f := range set {
		for _, n := range []int{-1, maxTick + 1, math.MinInt, math.MaxInt} {
			var r prr.Rate
			f(&r, n)
			sent(t, r, 1, false, prr.Rate{}, prr.Sent{}, api.ErrState)
			sent(t, r, -1, true, prr.Rate{}, prr.Sent{}, api.ErrState) // ahead of ErrRange
			delivered(t, r, prr.Sent{}, 1, 1, prr.Rate{}, 0, false, api.ErrState)
			delivered(t, r, prr.Sent{}, 0, -1, prr.Rate{}, 0, false, api.ErrState)
		}
		for _, n := range []int{0, 1, maxTick} {
			var r prr.Rate
			f(&r, n)
			sent(t, r, 1, false, r, prr.Sent{Delivered: r.Delivered, At: r.At, First: r.First, Left: 1}, api.OK)
		}
	}
}

func TestDeliverP19_2(t *testing.T) {
	r := prr.Rate{Delivered: 5000, At: 90, First: 50, Rounds: 3, Mark: 4000}
	p := prr.Sent{Delivered: 3000, At: 40, First: 30, Left: 60}
	// 3000 octets in 70 ticks; no round is over.
	delivered(t, r, p, 1000, 110, prr.Rate{Delivered: 6000, At: 110, First: 60, Rounds: 3, Mark: 4000}, 3000*1024/70, true, api.OK)
	// Those that left took longer: 80 ticks.
	q := prr.Sent{Delivered: 3000, At: 40, First: 30, Left: 110}
	delivered(t, r, q, 1000, 110, prr.Rate{Delivered: 6000, At: 110, First: 110, Rounds: 3, Mark: 4000}, 3000*1024/80, true, api.OK)
	// From Mark on a round is over.
	for from, over := range map[int]bool{3999: false, 4000: true, 4001: true} {
		q := p
		q.Delivered = from
		w := prr.Rate{Delivered: 6000, At: 110, First: 60, Rounds: 3, Mark: 4000}
		if over {
			w.Rounds, w.Mark = 4, 6000
		}
		delivered(t, r, q, 1000, 110, w, (6000-from)*1024/70, true, api.OK)
	}
	// No octets, or no ticks: the Rate that follows is told all the same.
	w := prr.Rate{Delivered: 6000, At: 110, First: 60, Rounds: 4, Mark: 6000}
	for from, rate := range map[int]int{5999: 14, 6000: 0, 6001: 0, maxTick: 0} {
		q := p
		q.Delivered = from
		delivered(t, r, q, 1000, 110, w, rate, from < 6000, api.OK)
	}
	for _, x := range []struct {
		at, first, left, rate int
		ok                    bool
	}{
		{109, 60, 60, 3072000, true}, {110, 60, 60, 0, false}, {111, 60, 60, 0, false}, {110, 59, 60, 3072000, true},
		{111, 59, 60, 3072000, true}, {110, 61, 60, 0, false}, {109, 61, 60, 3072000, true}, {108, 59, 60, 1536000, true},
	} {
		q := prr.Sent{Delivered: 3000, At: x.at, First: x.first, Left: x.left}
		w := prr.Rate{Delivered: 6000, At: 110, First: x.left, Rounds: 3, Mark: 4000}
		delivered(t, r, q, 1000, 110, w, x.rate, x.ok, api.OK)
	}
	// At most 2^30; and 0 may be a rate.
	z := prr.Rate{Mark: 1}
	for n, rate := range map[int]int{1 << 20: 1 << 30, 1<<20 - 1: 1<<30 - 1024, 1<<20 + 1: 1 << 30, most: most} {
		delivered(t, z, prr.Sent{}, n, 1, prr.Rate{Delivered: n, At: 1, Mark: 1}, rate, true, api.OK)
	}
	delivered(t, z, prr.Sent{}, 1, 1024, prr.Rate{Delivered: 1, At: 1024, Mark: 1}, 1, true, api.OK)
	delivered(t, z, prr.Sent{}, 1, 1025, prr.Rate{Delivered: 1, At: 1025, Mark: 1}, 0, true, api.OK)
}

func TestDeliverRangeP19_2(t *testing.T) {
	r := prr.Rate{Delivered: 5000, At: 90, First: 50, Rounds: 3, Mark: 4000}
	for _, n := range []int{0, -1, most + 1, math.MinInt, math.MaxInt} {
		delivered(t, r, prr.Sent{}, n, 1, prr.Rate{}, 0, false, api.ErrRange)
	}
	for _, n := range []int{-1, maxTick + 1, math.MinInt, math.MaxInt} {
		delivered(t, r, prr.Sent{}, 1, n, prr.Rate{}, 0, false, api.ErrRange)
		for _, p := range []prr.Sent{{Delivered: n}, {At: n}, {First: n}, {Left: n}} {
			delivered(t, r, p, 1, 1, prr.Rate{}, 0, false, api.ErrRange)
		}
	}
	// The greatest.
	top := prr.Rate{Delivered: maxTick, At: maxTick, First: maxTick, Rounds: maxTick, Mark: maxTick}
	p := prr.Sent{Delivered: maxTick, At: maxTick, First: maxTick, Left: maxTick}
	delivered(t, top, p, most, maxTick, top, 0, false, api.OK)
	p = prr.Sent{}
	delivered(t, top, p, 1, maxTick, prr.Rate{Delivered: maxTick, At: maxTick, Rounds: maxTick, Mark: maxTick}, 1024, true, api.OK)
	r = prr.Rate{Delivered: maxTick - 5, Rounds: maxTick - 1, Mark: 3}
	p.Delivered = maxTick - 10
	delivered(t, r, p, 9, 1, prr.Rate{Delivered: maxTick, At: 1, Rounds: maxTick, Mark: maxTick}, 10240, true, api.OK)
}

// A whole course: rounds, and the rate of a way that gives 1000 octets in 10 ticks.
func TestCourseP19_2(t *testing.T) {
	var r prr.Rate
	var flying []prr.Sent
	now := 100
	send := func(idle bool) {
		var p prr.Sent
		r, p, _ = prr.Send(r, now, idle)
		flying = append(flying, p)
	}
	for i := range 10 {
		send(i == 0)
	}
	now = 200
	for i := range 100 {
		var rate int
		var ok bool
		r, rate, ok, _ = prr.Deliver(r, flying[0], 1000, now)
		flying = flying[1:]
		send(false)
		if !ok || i > 20 && rate != 102400 || i == 0 && rate != 10240 {
			t.Fatalf("segment %d: rate %d, %v", i, rate, ok)
		}
		if want := 1 + i/10; r.Rounds != want {
			t.Fatalf("segment %d: %d rounds; want %d", i, r.Rounds, want)
		}
		now += 10
	}
}

func TestModelP19_2(t *testing.T) {
	for seed := range 30000 {
		rd := rand.New(rand.NewSource(int64(seed)))
		size := func() int { return rd.Intn(maxTick+1) >> rd.Intn(40) }
		r := prr.Rate{Delivered: size(), At: size(), First: size(), Rounds: size(), Mark: size()}
		p := prr.Sent{Delivered: size(), At: size(), First: size(), Left: size()}
		n, now := 1+rd.Intn(most)>>rd.Intn(30), size()
		w := prr.Rate{Delivered: min(maxTick, r.Delivered+n), At: now, First: p.Left, Rounds: r.Rounds, Mark: r.Mark}
		if p.Delivered >= r.Mark {
			w.Rounds, w.Mark = min(maxTick, r.Rounds+1), w.Delivered
		}
		octets, ticks := w.Delivered-p.Delivered, now-p.At
		if p.Left-p.First > ticks {
			ticks = p.Left - p.First
		}
		rate, ok := 0, octets > 0 && ticks > 0
		if ok {
			x := new(big.Int).Mul(big.NewInt(int64(octets)), big.NewInt(1024))
			x.Quo(x, big.NewInt(int64(ticks)))
			rate = int(min(x.Int64(), most))
		}
		delivered(t, r, p, n, now, w, rate, ok, api.OK)
		if t.Failed() {
			t.Fatal("seed", seed)
		}
	}
}

// The states that follow may be, whatever comes.
func TestFollowsP19_4(t *testing.T) {
	for seed := range 300 {
		rd := rand.New(rand.NewSource(int64(seed)))
		s := started(t, 1+rd.Intn(most), 1+rd.Intn(most))
		r := prr.Rate{Delivered: maxTick - rd.Intn(1<<33), Rounds: maxTick - rd.Intn(10)}
		for range 50 {
			var e [4]api.Errno
			var p prr.Sent
			s, _, e[0] = prr.Ack(s, rd.Intn(most+1), rd.Intn(most+1), 1+rd.Intn(65535))
			s, e[1] = prr.Spent(s, rd.Intn(most+1))
			r, p, e[2] = prr.Send(r, rd.Intn(maxTick+1), rd.Intn(2) == 0)
			r, _, _, e[3] = prr.Deliver(r, p, 1+rd.Intn(most), rd.Intn(maxTick+1))
			if e != [4]api.Errno{} {
				t.Fatalf("seed %d: %v, %+v, %+v", seed, e, s, r)
			}
		}
		if s.Delivered != 1<<31 || r.Delivered != maxTick {
			t.Fatalf("seed %d: they did not come to the greatest: %+v, %+v", seed, s, r)
		}
	}
}

// Calls hang on their arguments alone (P19.5: nothing is kept).
func TestNothingKeptP19_5(t *testing.T) {
	s := prr.State{Thresh: 5000, Flight: 10000, Delivered: 1000, Out: 500}
	r := prr.Rate{Delivered: 5000, At: 90, First: 50, Rounds: 3, Mark: 4000}
	for range 3 {
		acked(t, s, 1000, 8000, 1000, prr.State{Thresh: 5000, Flight: 10000, Delivered: 2000, Out: 500}, 500, api.OK)
		sent(t, r, 95, false, r, prr.Sent{Delivered: 5000, At: 90, First: 50, Left: 95}, api.OK)
	}
}
