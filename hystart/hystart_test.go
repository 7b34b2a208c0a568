package hystart_test

import (
	"math"
	"math/rand"
	"testing"

	"stopcock/api"
	"stopcock/hystart"
)

const most = 1 << 30

type state = hystart.State

func is(t *testing.T, what string, s, got state, e api.Errno, want state, fault api.Errno) {
	t.Helper()
	if got != want || e != fault {
		t.Errorf("%s of %+v: %+v, %d; want %+v, %d", what, s, got, e, want, fault)
	}
	if fault == api.OK && hystart.Check(got) != api.OK {
		t.Errorf("%s of %+v: %+v, which may not be", what, s, got)
	}
}

func round(t *testing.T, s, want state, fault api.Errno) {
	t.Helper()
	got, e := hystart.Round(s)
	is(t, "Round", s, got, e, want, fault)
}

func sample(t *testing.T, s state, rtt int, want state, fault api.Errno) {
	t.Helper()
	got, e := hystart.Sample(s, rtt)
	is(t, "Sample", s, got, e, want, fault)
}

func lost(t *testing.T, s, want state, fault api.Errno) {
	t.Helper()
	got, e := hystart.Loss(s)
	is(t, "Loss", s, got, e, want, fault)
}

func growth(t *testing.T, s state, n, mss, want int, fault api.Errno) {
	t.Helper()
	if got, e := hystart.Growth(s, n, mss); got != want || e != fault {
		t.Errorf("Growth(%+v, %d, %d) = %d, %d; want %d, %d", s, n, mss, got, e, want, fault)
	}
}

// ticks is a round with n samples of rtt.
func ticks(t *testing.T, s state, n, rtt int) state {
	t.Helper()
	s, e := hystart.Round(s)
	if e != api.OK {
		t.Fatal("Round:", e)
	}
	for range n {
		if s, e = hystart.Sample(s, rtt); e != api.OK {
			t.Fatal("Sample:", e)
		}
	}
	return s
}

func TestExample(t *testing.T) {
	s := ticks(t, state{}, 8, 100)
	if s.Phase != 0 {
		t.Error("Phase behind the first round:", s)
	}
	if s = ticks(t, s, 8, 112); s.Phase != 1 || s.Base != 112 {
		t.Error("Phase behind the second:", s)
	}
}

func TestCheckP22_1(t *testing.T) {
	for _, x := range []struct {
		set func(s *state, n int)
		top int
	}{
		{func(s *state, n int) { s.Phase = n }, 2},
		{func(s *state, n int) { s.Last = n }, most},
		{func(s *state, n int) { s.Now = n }, most},
		{func(s *state, n int) { s.Base = n }, most},
		{func(s *state, n int) { s.Samples = n }, most},
		{func(s *state, n int) { s.Rounds = n }, most},
	} {
		for _, n := range []int{-1, x.top + 1, math.MinInt, math.MaxInt} {
			var s state
			x.set(&s, n)
			if e := hystart.Check(s); e != api.ErrState {
				t.Errorf("Check(%+v) = %d; want ErrState", s, e)
			}
			round(t, s, state{}, api.ErrState)
			sample(t, s, 1, state{}, api.ErrState)
			sample(t, s, -1, state{}, api.ErrState) // ahead of ErrRange
			lost(t, s, state{}, api.ErrState)
			growth(t, s, 1, 1, 0, api.ErrState)
			growth(t, s, -1, 0, 0, api.ErrState)
		}
		for n := range min(3, x.top+1) {
			for _, n := range []int{n, x.top} {
				var s state
				x.set(&s, n)
				if e := hystart.Check(s); e != api.OK {
					t.Errorf("Check(%+v) = %d", s, e)
				}
				if got, e := hystart.Sample(s, most); e != api.OK || hystart.Check(got) != api.OK {
					t.Errorf("Sample of %+v: %+v, %d", s, got, e)
				}
			}
		}
	}
}

func TestRoundP22_2(t *testing.T) {
	s := state{HasLast: true, HasNow: true, Last: 5, Now: 7, Samples: 9, Base: 11, Rounds: 3}
	w := state{HasLast: true, Last: 7, Base: 11, Rounds: 3}
	round(t, s, w, api.OK)
	round(t, w, state{Base: 11, Rounds: 3}, api.OK) // a round without a sample
	s.Phase, w.Phase = 2, 2
	round(t, s, w, api.OK)
	// Five rounds end the conservative phase.
	for rounds, phase := range map[int]int{0: 1, 1: 1, 3: 1, 4: 2, 5: 2, most - 1: 2, most: 2} {
		s.Phase, s.Rounds = 1, rounds
		w.Phase, w.Rounds = phase, min(rounds+1, most)
		round(t, s, w, api.OK)
	}
}

func TestSampleP22_2(t *testing.T) {
	for _, n := range []int{-1, most + 1, math.MinInt, math.MaxInt} {
		sample(t, state{}, n, state{}, api.ErrRange)
	}
	sample(t, state{}, 100, state{HasNow: true, Now: 100, Samples: 1}, api.OK)
	sample(t, state{}, 0, state{HasNow: true, Samples: 1}, api.OK)
	sample(t, state{Now: 5}, most, state{HasNow: true, Now: most, Samples: 1}, api.OK) // it had none
	s := state{HasNow: true, Now: 100, Samples: 3}
	for rtt, now := range map[int]int{99: 99, 100: 100, 101: 100, 0: 0, most: 100} {
		sample(t, s, rtt, state{HasNow: true, Now: now, Samples: 4}, api.OK)
	}
	for n, want := range map[int]int{most - 1: most, most: most} {
		sample(t, state{HasNow: true, Now: 100, Samples: n, Phase: 2}, 100, state{HasNow: true, Now: 100, Samples: want, Phase: 2}, api.OK)
	}
}

// An eighth, rounded down, at least 4, at most 16, above the last round's.
func TestBoundP22_2(t *testing.T) {
	for last, bound := range map[int]int{0: 4, 1: 4, 31: 4, 32: 4, 39: 4, 40: 5, 47: 5, 48: 6, 100: 12, 103: 12, 104: 13, 127: 15, 128: 16, 129: 16, 136: 16, 1000: 16, most: 16} {
		for _, x := range []struct{ now, phase int }{{last + bound - 1, 0}, {last + bound, 1}, {last + bound + 1, 1}, {last, 0}, {0, 0}} {
			if x.now > most {
				continue
			}
			s := state{HasLast: true, Last: last, HasNow: true, Now: x.now, Samples: 7, Base: 33, Rounds: 4}
			w := s
			w.Samples, w.Phase = 8, x.phase
			if x.phase == 1 {
				w.Base, w.Rounds = x.now, 0
			}
			sample(t, s, most, w, api.OK)
		}
	}
	s := state{HasLast: true, Last: 100, HasNow: true, Now: 200, Samples: 6}
	w := s
	w.Samples = 7
	sample(t, s, 200, w, api.OK) // too few samples
	s.Samples = 20
	sample(t, s, 200, state{HasLast: true, Last: 100, HasNow: true, Now: 200, Samples: 21, Phase: 1, Base: 200}, api.OK)
	s.HasLast = false
	sample(t, s, 200, state{Last: 100, HasNow: true, Now: 200, Samples: 21}, api.OK) // no last round
	s.HasLast, s.Phase = true, 2
	sample(t, s, 200, state{HasLast: true, Last: 100, HasNow: true, Now: 200, Samples: 21, Phase: 2}, api.OK)
	// It is the shortest that counts, that which came last among them.
	s.Phase = 0
	sample(t, s, 111, state{HasLast: true, Last: 100, HasNow: true, Now: 111, Samples: 21}, api.OK)
	sample(t, s, 112, state{HasLast: true, Last: 100, HasNow: true, Now: 112, Samples: 21, Phase: 1, Base: 112}, api.OK)
}

// A shorter answer than the one that began it ends the conservative phase.
func TestShorterP22_2(t *testing.T) {
	for _, x := range []struct{ samples, rtt, phase int }{{7, 111, 0}, {7, 112, 1}, {7, 113, 1}, {7, 0, 0}, {6, 111, 1}, {20, 111, 0}} {
		s := state{Phase: 1, HasNow: true, Now: 120, Samples: x.samples, Base: 112, Rounds: 3, HasLast: true, Last: 100}
		w := s
		w.Phase, w.Now, w.Samples = x.phase, min(120, x.rtt), x.samples+1
		sample(t, s, x.rtt, w, api.OK)
	}
}

func TestLossP22_2(t *testing.T) {
	for phase := range 3 {
		s := state{Phase: phase, HasNow: true, Now: 120, Samples: 9, Base: 112, Rounds: 3, HasLast: true, Last: 100}
		w := s
		w.Phase = 2
		lost(t, s, w, api.OK)
	}
}

func TestGrowthP22_2(t *testing.T) {
	for _, n := range []int{-1, most + 1, math.MinInt, math.MaxInt} {
		growth(t, state{}, n, 1, 0, api.ErrRange)
	}
	for _, n := range []int{0, -1, 65536, math.MinInt, math.MaxInt} {
		growth(t, state{}, 1, n, 0, api.ErrRange)
	}
	for _, x := range []struct{ n, mss, want, fourth int }{
		{0, 1, 0, 0}, {1, 1, 1, 0}, {3, 1, 3, 0}, {4, 1, 4, 1}, {7, 1, 7, 1}, {8, 1, 8, 2}, {9, 1, 8, 2}, {7999, 1000, 7999, 1999},
		{8000, 1000, 8000, 2000}, {8001, 1000, 8000, 2000}, {most, 65535, 524280, 131070}, {most, 1, 8, 2},
	} {
		growth(t, state{}, x.n, x.mss, x.want, api.OK)
		growth(t, state{Phase: 1}, x.n, x.mss, x.fourth, api.OK)
		growth(t, state{Phase: 2}, x.n, x.mss, 0, api.OK)
	}
}

func TestPhasesP22_3(t *testing.T) {
	begun := func() state {
		s := ticks(t, state{}, 8, 100)
		return ticks(t, s, 8, 112)
	}
	// Five rounds, whether there are samples or not.
	for _, n := range []int{0, 1, 8, 20} {
		s := begun()
		for i := range 4 {
			if s = ticks(t, s, n, 112); s.Phase != 1 {
				t.Fatalf("behind %d rounds of %d samples: %+v", i+1, n, s)
			}
		}
		if s = ticks(t, s, n, 112); s.Phase != 2 {
			t.Fatalf("behind five rounds of %d samples: %+v", n, s)
		}
		// Nothing leads out of that.
		for _, rtt := range []int{1, 100, 112, 500, 1000} {
			if s = ticks(t, s, 10, rtt); s.Phase != 2 {
				t.Fatal("Phase 2 was left:", s)
			}
		}
	}
	// A shorter answer, and from then on all begins anew.
	s := begun()
	if s = ticks(t, s, 7, 111); s.Phase != 1 {
		t.Fatal(s)
	}
	if s = ticks(t, s, 8, 111); s.Phase != 0 {
		t.Fatal(s)
	}
	s = ticks(t, s, 8, 124)
	if s.Phase != 1 || s.Base != 124 || s.Rounds != 0 {
		t.Fatal(s)
	}
	s, _ = hystart.Loss(s)
	if s = ticks(t, s, 8, 1); s.Phase != 2 {
		t.Fatal(s)
	}
}

// Whatever comes: a phase follows the one ahead as it may, and the state may be.
func TestWhateverP22_3(t *testing.T) {
	left := [3]int{}
	for seed := range 300 {
		r := rand.New(rand.NewSource(int64(seed)))
		s := state{}
		top := 1 + r.Intn(most)>>r.Intn(30)
		for range 500 {
			before := s
			var e api.Errno
			what := r.Intn(200)
			switch {
			case what == 0:
				s, e = hystart.Loss(s)
			case what < 15:
				s, e = hystart.Round(s)
			default:
				s, e = hystart.Sample(s, top/2+r.Intn(top/2+1))
			}
			if e != api.OK || hystart.Check(s) != api.OK {
				t.Fatalf("seed %d: %+v, %d", seed, s, e)
			}
			ok := before.Phase == s.Phase
			switch {
			case what == 0:
				ok = s.Phase == 2
			case before.Phase == 1 && s.Phase == 0:
				ok = what >= 15 && s.Now < before.Base
			case before.Phase == 1 && s.Phase == 2:
				ok = what < 15 && s.Rounds == 5
			case before.Phase == 0 && s.Phase == 1:
				ok = what >= 15 && s.Now > s.Last
			}
			if !ok {
				t.Fatalf("seed %d: from %+v to %+v", seed, before, s)
			}
			if before.Phase != s.Phase {
				left[before.Phase]++
			}
		}
	}
	if left[0] < 100 || left[1] < 100 || left[2] > 0 {
		t.Error("phases were left so often:", left)
	}
}

func TestNoLongerP22_4(t *testing.T) {
	for seed := range 200 {
		r := rand.New(rand.NewSource(int64(seed)))
		s := state{}
		rtt := r.Intn(most)
		for range 50 {
			s = ticks(t, s, r.Intn(20), rtt)
			if s.Phase != 0 {
				t.Fatal(s)
			}
			if r.Intn(3) == 0 {
				rtt -= min(rtt, r.Intn(1000))
			}
		}
	}
}

// Calls hang on their arguments alone (P22.5: nothing is kept).
func TestNothingKeptP22_5(t *testing.T) {
	s := state{HasLast: true, Last: 100, HasNow: true, Now: 200, Samples: 7}
	for range 3 {
		sample(t, s, 112, state{HasLast: true, Last: 100, HasNow: true, Now: 112, Samples: 8, Phase: 1, Base: 112}, api.OK)
		round(t, s, state{HasLast: true, Last: 200}, api.OK)
		growth(t, s, 8000, 1000, 8000, api.OK)
	}
}
