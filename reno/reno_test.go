package reno_test

import (
	"math"
	"math/rand"
	"testing"

	"stopcock/api"
	"stopcock/reno"
)

const most = 1 << 30

type state = reno.State

func acked(t *testing.T, s state, mss, n int, want state, fault api.Errno) {
	t.Helper()
	got, e := reno.Ack(s, mss, n)
	is(t, "Ack", s, mss, n, got, e, want, fault)
}

func lost(t *testing.T, s state, mss, flight int, want state, fault api.Errno) {
	t.Helper()
	got, e := reno.Loss(s, mss, flight)
	is(t, "Loss", s, mss, flight, got, e, want, fault)
}

func ranOut(t *testing.T, s state, mss, flight int, want state, fault api.Errno) {
	t.Helper()
	got, e := reno.Timeout(s, mss, flight)
	is(t, "Timeout", s, mss, flight, got, e, want, fault)
}

func is(t *testing.T, what string, s state, mss, n int, got state, e api.Errno, want state, fault api.Errno) {
	t.Helper()
	if got != want || e != fault {
		t.Errorf("%s(%+v, %d, %d) = %+v, %d; want %+v, %d", what, s, mss, n, got, e, want, fault)
	}
	if fault == api.OK && reno.Check(got, mss) != api.OK {
		t.Errorf("P20.3: %s(%+v, %d, %d) = %+v, which may not be", what, s, mss, n, got)
	}
}

func refused(t *testing.T, s state, mss int, want api.Errno) {
	t.Helper()
	if e := reno.Check(s, mss); e != want {
		t.Errorf("Check(%+v, %d) = %d; want %d", s, mss, e, want)
	}
	for _, n := range []int{1, -1} { // ahead of ErrRange of n
		acked(t, s, mss, n, state{}, want)
		lost(t, s, mss, n, state{}, want)
		ranOut(t, s, mss, n, state{}, want)
	}
}

func TestExample(t *testing.T) {
	s, e := reno.New(1460)
	if s.Cwnd != 14600 || e != api.OK {
		t.Fatal("New:", s, e)
	}
	s, _ = reno.Ack(s, 1460, 1460)
	if s.Cwnd != 16060 {
		t.Error("Ack:", s)
	}
	s, _ = reno.Loss(s, 1460, 14600)
	if s.Cwnd != 7300 {
		t.Error("Loss:", s)
	}
}

func TestCheckP20_1(t *testing.T) {
	for _, mss := range []int{0, -1, 65536, math.MinInt, math.MaxInt} {
		refused(t, state{Cwnd: 70000, Thresh: 1}, mss, api.ErrRange)
		refused(t, state{}, mss, api.ErrRange) // ahead of ErrState
		if s, e := reno.New(mss); s != (state{}) || e != api.ErrRange {
			t.Errorf("New(%d) = %+v, %d; want ErrRange", mss, s, e)
		}
	}
	for _, mss := range []int{1, 1460, 65535} {
		for _, n := range []int{mss - 1, 0, -1, most + 1, math.MinInt, math.MaxInt} {
			refused(t, state{Cwnd: n, Thresh: 1}, mss, api.ErrState)
		}
		for _, n := range []int{0, -1, most + 1, math.MinInt, math.MaxInt} {
			refused(t, state{Cwnd: mss, Thresh: n}, mss, api.ErrState)
		}
		for _, n := range []int{-1, most + 1, math.MinInt, math.MaxInt} {
			refused(t, state{Cwnd: mss, Thresh: 1, Acked: n}, mss, api.ErrState)
		}
		for _, s := range []state{{Cwnd: mss, Thresh: 1}, {Cwnd: most, Thresh: most, Acked: most}} {
			if e := reno.Check(s, mss); e != api.OK {
				t.Errorf("Check(%+v, %d) = %d", s, mss, e)
			}
		}
	}
}

func TestNewP20_1(t *testing.T) {
	for mss, cwnd := range map[int]int{
		1: 10, 536: 5360, 1459: 14590, 1460: 14600, 1461: 14600, 2000: 14600, 7299: 14600, 7300: 14600, 7301: 14602, 9000: 18000, 65535: 131070,
	} {
		s, e := reno.New(mss)
		is(t, "New", state{}, mss, 0, s, e, state{Cwnd: cwnd, Thresh: most}, api.OK)
	}
}

func TestRangeP20_2(t *testing.T) {
	s := state{Cwnd: 5000, Thresh: 9000, Acked: 7}
	for _, n := range []int{-1, most + 1, math.MinInt, math.MaxInt} {
		acked(t, s, 1000, n, state{}, api.ErrRange)
		lost(t, s, 1000, n, state{}, api.ErrRange)
		ranOut(t, s, 1000, n, state{}, api.ErrRange)
	}
	for _, n := range []int{0, most} {
		acked(t, s, 1000, n, state{Cwnd: 5000 + min(n, 1000), Thresh: 9000, Acked: 7}, api.OK)
	}
}

func TestSlowStartP20_2(t *testing.T) {
	for _, x := range []struct{ cwnd, thresh, n, want int }{
		{5000, 5001, 1000, 6000}, {5000, most, 999, 5999}, {5000, most, 1001, 6000}, {5000, most, 1, 5001}, {5000, most, 0, 5000},
		{most - 500, most, 499, most - 1}, {most - 500, most, 500, most}, {most - 500, most, 501, most}, {most - 1, most, most, most},
	} {
		acked(t, state{Cwnd: x.cwnd, Thresh: x.thresh, Acked: 77}, 1000, x.n, state{Cwnd: x.want, Thresh: x.thresh, Acked: 77}, api.OK)
	}
}

func TestAvoidanceP20_2(t *testing.T) {
	for _, x := range []struct{ cwnd, thresh, acked, n, want, wantAcked int }{
		{5000, 5000, 0, 4999, 5000, 4999}, {5000, 5000, 0, 5000, 6000, 0}, {5000, 5000, 0, 5001, 6000, 1}, {5000, 4999, 4999, 1, 6000, 0},
		{5000, 1, 4999, 0, 5000, 4999}, {5000, 1, 4000, 999, 5000, 4999}, {5000, 1, 0, 20000, 6000, 15000}, {5000, 1, 15000, 0, 6000, 10000},
		{most, most, most - 1, 1, most, 0}, {most - 500, 1, 0, most - 500, most, 0}, {most - 1000, 1, 0, most - 1000, most, 0}, {most - 1001, 1, 0, most - 1001, most - 1, 0},
		{5000, 1, 0, most, 6000, most - 5000}, {5000, 1, most - 7, 7, 6000, most - 5000}, {5000, 1, most - 7, 8, 6000, most - 5000}, {5000, 1, most, most, 6000, most - 5000},
		{most, 1, most, most, most, 0}, {most, 1, most - 1, 0, most, most - 1},
	} {
		s := state{Cwnd: x.cwnd, Thresh: x.thresh, Acked: x.acked}
		acked(t, s, 1000, x.n, state{Cwnd: x.want, Thresh: x.thresh, Acked: x.wantAcked}, api.OK)
	}
}

func TestLossP20_2(t *testing.T) {
	for _, mss := range []int{1, 1000, 65535} {
		for _, s := range []state{{Cwnd: 70000, Thresh: 9, Acked: 7}, {Cwnd: 70000, Thresh: most}} {
			for _, flight := range []int{0, 1, 4*mss - 1, 4 * mss, 4*mss + 1, 4*mss + 2, 14600, most - 1, most} {
				half := max(2*mss, (flight-flight%2)/2)
				lost(t, s, mss, flight, state{Cwnd: half, Thresh: half}, api.OK)
				ranOut(t, s, mss, flight, state{Cwnd: mss, Thresh: half}, api.OK)
			}
		}
	}
}

// reckon is each call by the words.
func reckon(what int, s state, mss, n int) state {
	up := func(a, b int) int {
		if a+b > most {
			return most
		}
		return a + b
	}
	switch {
	case what > 0:
		s.Thresh = n >> 1
		if s.Thresh < mss+mss {
			s.Thresh = mss + mss
		}
		s.Cwnd, s.Acked = s.Thresh, 0
		if what > 1 {
			s.Cwnd = mss
		}
	case s.Cwnd < s.Thresh && n > mss:
		s.Cwnd = up(s.Cwnd, mss)
	case s.Cwnd < s.Thresh:
		s.Cwnd = up(s.Cwnd, n)
	default:
		s.Acked = up(s.Acked, n)
		if s.Acked >= s.Cwnd {
			s.Acked -= s.Cwnd
			s.Cwnd = up(s.Cwnd, mss)
		}
	}
	return s
}

func TestModelP20_2(t *testing.T) {
	for seed := range 500 {
		r := rand.New(rand.NewSource(int64(seed)))
		mss := 1 + r.Intn(65535)>>r.Intn(16)
		s, _ := reno.New(mss)
		if r.Intn(2) == 0 {
			s = state{Cwnd: mss + r.Intn(most-mss+1)>>r.Intn(20), Thresh: 1 + r.Intn(most)>>r.Intn(20), Acked: r.Intn(most+1) >> r.Intn(20)}
		}
		for range 100 {
			n := r.Intn(most+1) >> r.Intn(31)
			what := max(0, r.Intn(22)-19)
			want := reckon(what, s, mss, n)
			switch what {
			case 0:
				acked(t, s, mss, n, want, api.OK)
			case 1:
				lost(t, s, mss, n, want, api.OK)
			case 2:
				ranOut(t, s, mss, n, want, api.OK)
			}
			if t.Failed() {
				t.Fatal("seed", seed)
			}
			s = want
		}
	}
}

// While a window is acknowledged it at most doubles in slow start, and goes up by at most mss else.
func TestGrowthP20_4(t *testing.T) {
	for seed := range 500 {
		r := rand.New(rand.NewSource(int64(seed)))
		mss := 1 + r.Intn(3000)
		for _, slow := range []bool{true, false} {
			s := state{Cwnd: mss + r.Intn(50*mss), Thresh: 1, Acked: 0}
			if slow {
				s.Thresh = most
			} else {
				s.Acked = r.Intn(s.Cwnd)
			}
			first := s.Cwnd
			for left := first; left > 0; {
				n := min(left, 1+r.Intn(2*mss))
				left -= n
				var e api.Errno
				s, e = reno.Ack(s, mss, n)
				if e != api.OK {
					t.Fatal("Ack:", e)
				}
			}
			if slow && s.Cwnd > 2*first || !slow && (s.Cwnd > first+mss || s.Cwnd < first) {
				t.Fatalf("seed %d: from %d to %d, mss %d", seed, first, s.Cwnd, mss)
			}
		}
	}
}

// Calls hang on their arguments alone (P20.5: nothing is kept).
func TestNothingKeptP20_5(t *testing.T) {
	s := state{Cwnd: 5000, Thresh: 1, Acked: 4000}
	for range 3 {
		acked(t, s, 1000, 1500, state{Cwnd: 6000, Thresh: 1, Acked: 500}, api.OK)
		lost(t, s, 1000, 5000, state{Cwnd: 2500, Thresh: 2500}, api.OK)
		ranOut(t, s, 1000, 5000, state{Cwnd: 1000, Thresh: 2500}, api.OK)
	}
}
