package cubic_test

import (
	"math"
	"math/big"
	"math/rand"
	"testing"

	"stopcock/api"
	"stopcock/cubic"
)

const (
	most    = 1 << 30
	maxTick = 1 << 40
)

type state = cubic.State

func curve(t *testing.T, w, mss, d, want int, fault api.Errno) {
	t.Helper()
	if got, e := cubic.Curve(w, mss, d); got != want || e != fault {
		t.Errorf("Curve(%d, %d, %d) = %d, %d; want %d, %d", w, mss, d, got, e, want, fault)
	}
}

func turn(t *testing.T, w, cwnd, mss, want int, fault api.Errno) {
	t.Helper()
	if got, e := cubic.Turn(w, cwnd, mss); got != want || e != fault {
		t.Errorf("Turn(%d, %d, %d) = %d, %d; want %d, %d", w, cwnd, mss, got, e, want, fault)
	}
}

func is(t *testing.T, what string, s state, mss int, got state, e api.Errno, want state, fault api.Errno) {
	t.Helper()
	if got != want || e != fault {
		t.Errorf("%s of %+v, mss %d: %+v, %d; want %+v, %d", what, s, mss, got, e, want, fault)
	}
	if fault == api.OK && cubic.Check(got, mss) != api.OK {
		t.Errorf("P21.8: %s of %+v, mss %d: %+v, which may not be", what, s, mss, got)
	}
}

func acked(t *testing.T, s state, mss, n, now, rtt int, want state, fault api.Errno) {
	t.Helper()
	got, e := cubic.Ack(s, mss, n, now, rtt)
	is(t, "Ack", s, mss, got, e, want, fault)
	if e == api.OK && got.Cwnd < s.Cwnd {
		t.Errorf("P21.7: Ack of %+v, mss %d: %+v", s, mss, got)
	}
}

func lost(t *testing.T, s state, mss int, want state, fault api.Errno) {
	t.Helper()
	got, e := cubic.Loss(s, mss)
	is(t, "Loss", s, mss, got, e, want, fault)
}

func ranOut(t *testing.T, s state, mss int, want state, fault api.Errno) {
	t.Helper()
	got, e := cubic.Timeout(s, mss)
	is(t, "Timeout", s, mss, got, e, want, fault)
}

func TestExample(t *testing.T) {
	for n, want := range map[uint64]uint64{26: 2, 27: 3} {
		if got := cubic.Root(n); got != want {
			t.Errorf("Root(%d) = %d; want %d", n, got, want)
		}
	}
	curve(t, 10000, 1000, 1024, 10400, api.OK)
	turn(t, 14000, 10000, 1000, 2206, api.OK)
}

func TestRootP21_1(t *testing.T) {
	for n := range uint64(70000) {
		if r := cubic.Root(n); r*r*r > n || (r+1)*(r+1)*(r+1) <= n {
			t.Fatalf("Root(%d) = %d", n, r)
		}
	}
	for _, r := range []uint64{1 << 10, 65536, 1<<20 + 1, 1<<21 - 1, 1 << 21, 1<<21 + 1, 2642244, 2642245} {
		for n, want := range map[uint64]uint64{r*r*r - 1: r - 1, r * r * r: r, r*r*r + 1: r} {
			if got := cubic.Root(n); got != want {
				t.Errorf("Root(%d) = %d; want %d", n, got, want)
			}
		}
	}
	if got := cubic.Root(math.MaxUint64); got != 2642245 {
		t.Error("Root of the greatest:", got)
	}
	rd := rand.New(rand.NewSource(1))
	for range 20000 {
		n := rd.Uint64() >> rd.Intn(64)
		r := new(big.Int).SetUint64(cubic.Root(n))
		power := func(x *big.Int) *big.Int { return new(big.Int).Exp(x, big.NewInt(3), nil) }
		want := new(big.Int).SetUint64(n)
		if power(r).Cmp(want) > 0 || power(new(big.Int).Add(r, big.NewInt(1))).Cmp(want) <= 0 {
			t.Fatalf("Root(%d) = %d", n, r)
		}
	}
}

// rational is the curve as it is, without bounds.
func rational(w, mss, d int) *big.Rat {
	power := new(big.Int).Exp(big.NewInt(int64(d)), big.NewInt(3), nil)
	power.Mul(power, big.NewInt(int64(4*mss)))
	x := new(big.Rat).SetFrac(power, big.NewInt(10*1024*1024*1024))
	return x.Add(x, new(big.Rat).SetInt64(int64(w)))
}

// wantCurve rounds it down, and holds it.
func wantCurve(w, mss, d int) int {
	d = max(-30000, min(30000, d))
	x := rational(w, mss, d)
	n := new(big.Int).Div(x.Num(), x.Denom()).Int64() // a divisor above 0: down
	return int(max(0, min(most, n)))
}

func TestCurveP21_1(t *testing.T) {
	for _, x := range [][4]int{
		{10000, 1000, 0, 10000}, {10000, 1000, 1, 10000}, {10000, 1000, -1, 9999}, {10000, 1000, 2048, 13200}, {10000, 1000, -1024, 9600}, {10000, 1000, -1025, 9598},
		{0, 1000, -1, 0}, {0, 1000, 0, 0}, {0, 1, 1389, 0}, {0, 1, 1390, 1}, {0, 1, 1391, 1}, {399, 1000, -1024, 0}, {400, 1000, -1024, 0}, {401, 1000, -1024, 1}, {most, 1000, 1, most}, {most, 65535, 30000, most}, {most, 1, -1, most - 1},
		{0, 1, 30000, 10058}, {0, 1, 30001, 10058}, {0, 1, math.MaxInt, 10058}, {20000, 1, -30000, 9941}, {20000, 1, -30001, 9941}, {20000, 1, math.MinInt, 9941},
		{0, 65535, 30000, 659169629},
	} {
		if want := wantCurve(x[0], x[1], x[2]); want != x[3] {
			t.Errorf("the test reckons otherwise: %v, %d", x, want)
		}
		curve(t, x[0], x[1], x[2], x[3], api.OK)
	}
	for _, n := range []int{-1, most + 1, math.MinInt, math.MaxInt} {
		curve(t, n, 1000, 0, 0, api.ErrRange)
	}
	for _, n := range []int{0, -1, 65536, math.MinInt, math.MaxInt} {
		curve(t, 1000, n, 0, 0, api.ErrRange)
	}
	r := rand.New(rand.NewSource(2))
	for range 20000 {
		w, mss, d := r.Intn(most+1)>>r.Intn(30), 1+r.Intn(65535)>>r.Intn(16), r.Intn(64001)-32000
		curve(t, w, mss, d, wantCurve(w, mss, d), api.OK)
	}
}

// It lies within one octet of the rational curve, where it is not held.
func TestCurveP21_5(t *testing.T) {
	r := rand.New(rand.NewSource(3))
	one := big.NewRat(1, 1)
	for range 20000 {
		w, mss, d := 1+r.Intn(most-1), 1+r.Intn(65535), r.Intn(60001)-30000
		got, _ := cubic.Curve(w, mss, d)
		if got == 0 || got == most {
			continue
		}
		off := new(big.Rat).Sub(rational(w, mss, d), big.NewRat(int64(got), 1))
		if off.Abs(off).Cmp(one) >= 0 {
			t.Fatalf("Curve(%d, %d, %d) = %d, off by %v", w, mss, d, got, off)
		}
	}
}

func TestCurveP21_6(t *testing.T) {
	for _, x := range [][2]int{{0, 1}, {1000, 1}, {100000, 1460}, {1 << 20, 9000}, {most, 65535}, {most - 1, 1}, {5000, 65535}} {
		last := 0
		for d := -30100; d <= 30100; d++ {
			n, e := cubic.Curve(x[0], x[1], d)
			if n < last || e != api.OK || d == 0 && n != x[0] {
				t.Fatalf("Curve(%d, %d, %d) = %d, %d behind %d", x[0], x[1], d, n, e, last)
			}
			last = n
		}
	}
}

func TestTurnP21_1(t *testing.T) {
	for _, x := range [][4]int{
		{14000, 10000, 1000, 2206}, {10000, 10000, 1000, 0}, {10000, 10001, 1000, 0}, {0, most, 1, 0}, {10000, 9999, 1000, 138}, {0, 0, 1, 0},
		{1, 0, 1, 1389}, {1, 0, 65535, 34}, {most, 0, 1, 1423136}, {most, 0, 65535, 35298}, {10400, 10000, 1000, 1024}, {10399, 10000, 1000, 1023},
	} {
		turn(t, x[0], x[1], x[2], x[3], api.OK)
	}
	for _, n := range []int{-1, most + 1, math.MinInt, math.MaxInt} {
		turn(t, n, 5, 1000, 0, api.ErrRange)
		turn(t, 5, n, 1000, 0, api.ErrRange)
	}
	for _, n := range []int{0, -1, 65536, math.MinInt, math.MaxInt} {
		turn(t, 5, 1, n, 0, api.ErrRange)
		turn(t, 1, 5, n, 0, api.ErrRange)
	}
	r := rand.New(rand.NewSource(4))
	for range 20000 {
		w, cwnd, mss := r.Intn(most+1)>>r.Intn(30), r.Intn(most+1)>>r.Intn(30), 1+r.Intn(65535)>>r.Intn(16)
		turn(t, w, cwnd, mss, wantTurn(w, cwnd, mss), api.OK)
	}
}

func wantTurn(w, cwnd, mss int) int {
	if cwnd >= w {
		return 0
	}
	x := new(big.Int).Mul(big.NewInt(int64(w-cwnd)), big.NewInt(10*1024*1024*1024))
	x.Quo(x, big.NewInt(int64(4*mss)))
	return int(cubic.Root(x.Uint64()))
}

func refused(t *testing.T, s state, mss int, want api.Errno) {
	t.Helper()
	if e := cubic.Check(s, mss); e != want {
		t.Errorf("Check(%+v, %d) = %d; want %d", s, mss, e, want)
	}
	acked(t, s, mss, 1, 1, 1, state{}, want)
	acked(t, s, mss, -1, -1, -1, state{}, want) // ahead of ErrRange of n
	lost(t, s, mss, state{}, want)
	ranOut(t, s, mss, state{}, want)
}

func TestCheckP21_2(t *testing.T) {
	good := state{Cwnd: 5000, Thresh: 4000, Most: 7000, Turn: 100, Epoch: 50, Est: 5100, Has: true}
	for _, mss := range []int{0, -1, 65536, math.MinInt, math.MaxInt} {
		refused(t, good, mss, api.ErrRange)
		refused(t, state{}, mss, api.ErrRange) // ahead of ErrState
		if s, e := cubic.New(mss); s != (state{}) || e != api.ErrRange {
			t.Errorf("New(%d) = %+v, %d; want ErrRange", mss, s, e)
		}
	}
	for _, x := range []struct {
		set       func(s *state, n int)
		low, high int
	}{
		{func(s *state, n int) { s.Cwnd = n }, 1000, most},
		{func(s *state, n int) { s.Thresh = n }, 1, most},
		{func(s *state, n int) { s.Most = n }, 0, most},
		{func(s *state, n int) { s.Est = n }, 0, most},
		{func(s *state, n int) { s.Turn = n }, 0, 1 << 22},
		{func(s *state, n int) { s.Epoch = n }, 0, maxTick},
	} {
		for _, n := range []int{x.low - 1, -1, x.high + 1, math.MinInt, math.MaxInt} {
			s := good
			x.set(&s, n)
			refused(t, s, 1000, api.ErrState)
		}
		for _, n := range []int{x.low, x.high} {
			s := good
			x.set(&s, n)
			if e := cubic.Check(s, 1000); e != api.OK {
				t.Errorf("Check(%+v) = %d", s, e)
			}
			if got, e := cubic.Ack(s, 1000, 500, 70, 10); e != api.OK || cubic.Check(got, 1000) != api.OK {
				t.Errorf("P21.8: Ack of %+v: %+v, %d", s, got, e)
			}
		}
	}
}

func TestNewP21_2(t *testing.T) {
	for mss, cwnd := range map[int]int{1: 10, 1459: 14590, 1460: 14600, 1461: 14600, 7300: 14600, 7301: 14602, 65535: 131070} {
		s, e := cubic.New(mss)
		is(t, "New", state{}, mss, s, e, state{Cwnd: cwnd, Thresh: most}, api.OK)
	}
}

func TestRangeP21_3(t *testing.T) {
	for _, s := range []state{{Cwnd: 5000, Thresh: 4000}, {Cwnd: 5000, Thresh: 9000}} {
		for _, n := range []int{-1, most + 1, math.MinInt, math.MaxInt} {
			acked(t, s, 1000, n, 1, 1, state{}, api.ErrRange)
			acked(t, s, 1000, 1, 1, n, state{}, api.ErrRange)
		}
		for _, n := range []int{-1, maxTick + 1, math.MinInt, math.MaxInt} {
			acked(t, s, 1000, 1, n, 1, state{}, api.ErrRange)
		}
	}
	s := state{Cwnd: 5000, Thresh: 9000}
	acked(t, s, 1000, 0, 0, 0, s, api.OK)
	acked(t, s, 1000, most, maxTick, most, state{Cwnd: 6000, Thresh: 9000}, api.OK)
}

func TestSlowStartP21_3(t *testing.T) {
	rest := state{Most: 7, Turn: 8, Epoch: 9, Est: 10, Has: true}
	for _, x := range []struct{ cwnd, thresh, n, want int }{
		{5000, 5001, 1000, 6000}, {5000, most, 999, 5999}, {5000, most, 1001, 6000}, {5000, most, 0, 5000},
		{most - 500, most, 499, most - 1}, {most - 500, most, 501, most}, {most - 1, most, most, most},
	} {
		s, w := rest, rest
		s.Cwnd, s.Thresh, w.Cwnd, w.Thresh = x.cwnd, x.thresh, x.want, x.thresh
		acked(t, s, 1000, x.n, 100, 10, w, api.OK)
	}
}

func TestBeginP21_3(t *testing.T) {
	// The first Ack begins at now, and goes on at once: the curve lies rtt behind it.
	s := state{Cwnd: 10000, Thresh: 10000, Most: 14000, Turn: 5, Epoch: 6, Est: 7}
	w := state{Cwnd: 10000, Thresh: 10000, Most: 14000, Turn: 2206, Epoch: 500, Est: 10000, Has: true}
	acked(t, s, 1000, 0, 500, 0, w, api.OK)
	w.Est = 10000 + 9*1000*1000/(17*10000)
	w.Cwnd = 10052 // Est is above the curve of 9999
	acked(t, s, 1000, 1000, 500, 0, w, api.OK)
	aim := wantCurve(14000, 1000, 1024-2206)
	w.Cwnd = 10000 + (aim-10000)*1000/10000
	acked(t, s, 1000, 1000, 500, 1024, w, api.OK)
	// Most is Cwnd, if that is above it, but Turn is reckoned ahead of that.
	s.Most = 9999
	w = state{Cwnd: 10000, Thresh: 10000, Most: 10000, Epoch: 500, Est: 10000, Has: true}
	acked(t, s, 1000, 0, 500, 0, w, api.OK)
	s.Most = 10000
	acked(t, s, 1000, 0, 500, 0, w, api.OK)
	// Later on nothing of that changes.
	s = state{Cwnd: 10000, Thresh: 1, Most: 9000, Turn: 100, Epoch: 500, Est: 9000, Has: true}
	acked(t, s, 1000, 0, 700, 0, s, api.OK)
	s.Epoch = 900 // t is at least 0
	acked(t, s, 1000, 0, 700, 0, s, api.OK)
}

func TestGoOnP21_3(t *testing.T) {
	for _, x := range []struct {
		s           state
		n, now, rtt int
		cwnd, est   int
	}{
		// At the turn the curve is Most.
		{state{Cwnd: 10000, Most: 14000, Turn: 100, Est: 5000}, 1000, 100, 0, 10400, 5052},
		{state{Cwnd: 10000, Most: 14000, Turn: 100, Est: 5000}, 1000, 70, 30, 10400, 5052},
		{state{Cwnd: 10000, Most: 14000, Turn: 100, Est: 5000}, 10000, 100, 0, 14000, 5529},
		{state{Cwnd: 10000, Most: 14000, Turn: 100, Est: 5000}, 1, 100, 0, 10000, 5000},
		// An epoch in time to come counts as now.
		{state{Cwnd: 10000, Most: 14000, Turn: 100, Est: 5000, Epoch: 5000}, 1000, 200, 100, 10400, 5052},
		// No more than a half more.
		{state{Cwnd: 10001, Most: 20000, Turn: 100, Est: 5000}, 10001, 100, 0, 15001, 5000 + 9*1000*10001/(17*10001)},
		{state{Cwnd: 10000, Most: 15000, Turn: 100, Est: 5000}, 10000, 100, 0, 15000, 5529},
		{state{Cwnd: 10000, Most: 15001, Turn: 100, Est: 5000}, 10000, 100, 0, 15000, 5529},
		// No less than it is.
		{state{Cwnd: 10000, Most: 9000, Turn: 100, Est: 5000}, 10000, 100, 0, 10000, 5529},
		// Reno's, if that is above the curve; just as much is not.
		{state{Cwnd: 10000, Most: 14000, Turn: 100, Est: 13948}, 1000, 100, 0, 10400, 14000},
		{state{Cwnd: 10000, Most: 14000, Turn: 100, Est: 13949}, 1000, 100, 0, 14001, 14001},
		{state{Cwnd: 10000, Most: 5000, Turn: 100, Est: 8000}, 1000, 100, 0, 10000, 8052},
		{state{Cwnd: 10000, Most: 14000, Turn: 100, Est: most - 5}, 1000, 100, 0, most, most},
		{state{Cwnd: 10000, Most: most, Turn: 100, Est: most - 5}, 1000, 100, 0, 10500, most},
		// To MaxWindow at most.
		{state{Cwnd: most - 10, Most: most, Turn: 100}, most, 100, 0, most, 529},
		{state{Cwnd: most / 2, Most: most, Turn: 100}, most, 100, 0, most, 1058},
		{state{Cwnd: most, Most: most, Turn: 100}, most, maxTick, most, most, 529},
	} {
		x.s.Thresh, x.s.Has = 1, true
		w := x.s
		w.Cwnd, w.Est = x.cwnd, x.est
		acked(t, x.s, 1000, x.n, x.now, x.rtt, w, api.OK)
	}
}

func TestLossP21_4(t *testing.T) {
	for _, x := range []struct{ cwnd, most, mss, want, wantMost int }{
		{10000, 0, 1000, 7000, 10000}, {10000, 9999, 1000, 7000, 10000}, {10000, 10000, 1000, 7000, 10000}, {10000, 10001, 1000, 7000, 8500},
		{10001, 20000, 1000, 7000, 8500}, {10009, 20000, 1000, 7006, 8507}, {10019, 20000, 1000, 7013, 8516},
		{2000, 0, 1000, 2000, 2000}, {1000, 0, 1000, 2000, 1000}, {2857, 0, 1000, 2000, 2857}, {2859, 0, 1000, 2001, 2859},
		{65535, most, 65535, 131070, 55704}, {most, most, 1, most * 7 / 10, most},
	} {
		s := state{Cwnd: x.cwnd, Thresh: 5, Most: x.most, Turn: 6, Epoch: 7, Est: 8, Has: true}
		w := state{Cwnd: x.want, Thresh: x.want, Most: x.wantMost, Turn: 6, Epoch: 7, Est: 8}
		lost(t, s, x.mss, w, api.OK)
		w.Cwnd = x.mss
		ranOut(t, s, x.mss, w, api.OK)
	}
}

// reckon is each call by the words, in numbers of any size where they may be great.
func reckon(what int, s state, mss, n, now, rtt int) state {
	muldiv := func(a, b, c int) int {
		x := new(big.Int).Mul(big.NewInt(int64(a)), big.NewInt(int64(b)))
		return int(x.Quo(x, big.NewInt(int64(c))).Int64())
	}
	if what > 0 {
		s.Has = false
		if s.Most > s.Cwnd {
			s.Most = muldiv(17, s.Cwnd, 20)
		} else {
			s.Most = s.Cwnd
		}
		s.Cwnd = max(2*mss, muldiv(7, s.Cwnd, 10))
		s.Thresh = s.Cwnd
		if what > 1 {
			s.Cwnd = mss
		}
		return s
	}
	if s.Cwnd < s.Thresh {
		s.Cwnd = min(most, s.Cwnd+min(n, mss))
		return s
	}
	if !s.Has {
		s.Has, s.Epoch, s.Est, s.Turn = true, now, s.Cwnd, wantTurn(s.Most, s.Cwnd, mss)
		s.Most = max(s.Most, s.Cwnd)
	}
	ticks := rtt
	if now > s.Epoch {
		ticks += now - s.Epoch
	}
	c := wantCurve(s.Most, mss, ticks-s.Turn)
	s.Est = min(most, s.Est+muldiv(9*mss, n, 17*s.Cwnd))
	switch {
	case s.Est > c && s.Est > s.Cwnd:
		s.Cwnd = s.Est
	case s.Est <= c && c > s.Cwnd:
		aim := min(c, muldiv(3, s.Cwnd, 2))
		s.Cwnd = min(most, s.Cwnd+muldiv(aim-s.Cwnd, n, s.Cwnd))
	}
	return s
}

func TestModelP21_3(t *testing.T) {
	curved, est := 0, 0
	for seed := range 400 {
		r := rand.New(rand.NewSource(int64(seed)))
		mss := 1 + r.Intn(65535)>>r.Intn(16)
		s, _ := cubic.New(mss)
		if r.Intn(2) == 0 {
			some := func() int { return r.Intn(most+1) >> r.Intn(20) }
			s = state{Cwnd: max(mss, some()), Thresh: max(1, some()), Most: some(), Turn: r.Intn(1<<22+1) >> r.Intn(22), Epoch: r.Intn(maxTick+1) >> r.Intn(40), Est: some(), Has: r.Intn(2) == 0}
		}
		now := s.Epoch
		for range 200 {
			n, rtt := r.Intn(3*mss), r.Intn(200)
			now = min(maxTick, now+r.Intn(100))
			if r.Intn(50) == 0 {
				n, rtt, now = r.Intn(most+1), r.Intn(most+1), r.Intn(maxTick+1)
			}
			what := max(0, r.Intn(60)-57)
			want := reckon(what, s, mss, n, now, rtt)
			switch what {
			case 0:
				acked(t, s, mss, n, now, rtt, want, api.OK)
				if s.Cwnd >= s.Thresh && want.Cwnd > s.Cwnd {
					if want.Cwnd == want.Est {
						est++
					} else {
						curved++
					}
				}
			case 1:
				lost(t, s, mss, want, api.OK)
			case 2:
				ranOut(t, s, mss, want, api.OK)
			}
			if t.Failed() {
				t.Fatal("seed", seed)
			}
			s = want
		}
	}
	if curved < 1000 || est < 1000 {
		t.Error("too seldom by the curve, or as Reno:", curved, est)
	}
}

// Calls hang on their arguments alone (P21.9: nothing is kept).
func TestNothingKeptP21_9(t *testing.T) {
	s := state{Cwnd: 10000, Thresh: 1, Most: 14000, Turn: 100, Est: 5000, Has: true}
	for range 3 {
		w := s
		w.Cwnd, w.Est = 10400, 5052
		acked(t, s, 1000, 1000, 100, 0, w, api.OK)
		lost(t, s, 1000, state{Cwnd: 7000, Thresh: 7000, Most: 8500, Turn: 100, Est: 5000}, api.OK)
	}
}
