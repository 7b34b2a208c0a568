package bbr_test

import (
	"math"
	"math/big"
	"math/rand"
	"slices"
	"testing"

	"stopcock/api"
	"stopcock/bbr"
)

const (
	most    = 1 << 30
	maxTick = 1 << 40
)

type (
	state = bbr.State
	pair  = bbr.Pair
	event = bbr.Event
)

// flat is a state without its list, to be compared.
type flat struct {
	phase                               int
	hasRtt, full                        bool
	rtt, rttAt, fullRate, fullRounds    int
	cycle, cycleAt, until, round, rates int
}

func flatten(s state) flat {
	return flat{s.Phase, s.HasRtt, s.Full, s.Rtt, s.RttAt, s.FullRate, s.FullRounds, s.Cycle, s.CycleAt, s.Until, s.Round, len(s.Rates)}
}

func same(a, b state) bool {
	return flatten(a) == flatten(b) && slices.Equal(a.Rates, b.Rates)
}

func filter(t *testing.T, l []pair, round, rate int, want []pair, fault api.Errno) {
	t.Helper()
	if got, e := bbr.Filter(l, round, rate); !slices.Equal(got, want) || e != fault {
		t.Errorf("Filter(%v, %d, %d) = %v, %d; want %v, %d", l, round, rate, got, e, want, fault)
	}
}

func acked(t *testing.T, s state, e event, want state, fault api.Errno) {
	t.Helper()
	got, x := bbr.Ack(s, 1000, e)
	if !same(got, want) || x != fault {
		t.Errorf("Ack(%+v, %+v) = %+v, %d; want %+v, %d", s, e, got, x, want, fault)
	}
	if fault == api.OK && bbr.Check(got) != api.OK {
		t.Errorf("P23.5: Ack(%+v, %+v) = %+v, which may not be", s, e, got)
	}
}

func window(t *testing.T, s state, mss, want int, fault api.Errno) {
	t.Helper()
	if got, e := bbr.Window(s, mss); got != want || e != fault {
		t.Errorf("Window(%+v, %d) = %d, %d; want %d, %d", s, mss, got, e, want, fault)
	}
}

func rate(t *testing.T, s state, want int, fault api.Errno) {
	t.Helper()
	if got, e := bbr.Rate(s); got != want || e != fault {
		t.Errorf("Rate(%+v) = %d, %d; want %d, %d", s, got, e, want, fault)
	}
}

func TestExample(t *testing.T) {
	var l []pair
	for _, p := range []pair{{1, 100}, {2, 80}, {3, 90}} {
		var e api.Errno
		if l, e = bbr.Filter(l, p.Round, p.Rate); e != api.OK {
			t.Fatal("Filter:", e)
		}
	}
	if !slices.Equal(l, []pair{{1, 100}, {3, 90}}) {
		t.Error("Filter:", l)
	}
	filter(t, l, 11, 50, []pair{{3, 90}, {11, 50}}, api.OK)
}

func TestFilterP23_1(t *testing.T) {
	l := []pair{{1, 100}, {3, 90}, {5, 70}}
	for _, x := range []struct {
		round, rate int
		want        []pair
	}{
		{6, 60, []pair{{1, 100}, {3, 90}, {5, 70}, {6, 60}}},
		{6, 70, []pair{{1, 100}, {3, 90}, {6, 70}}},
		{6, 71, []pair{{1, 100}, {3, 90}, {6, 71}}},
		{6, 89, []pair{{1, 100}, {3, 90}, {6, 89}}},
		{6, 90, []pair{{1, 100}, {6, 90}}},
		{6, 100, []pair{{6, 100}}},
		{6, most, []pair{{6, most}}},
		{6, 0, []pair{{1, 100}, {3, 90}, {5, 70}, {6, 0}}},
		// Of one round the greater.
		{5, 60, []pair{{1, 100}, {3, 90}, {5, 70}}},
		{5, 0, []pair{{1, 100}, {3, 90}, {5, 70}}},
		{5, 70, []pair{{1, 100}, {3, 90}, {5, 70}}},
		{5, 80, []pair{{1, 100}, {3, 90}, {5, 80}}},
		{5, 200, []pair{{5, 200}}},
		// Ten rounds old.
		{10, 60, []pair{{1, 100}, {3, 90}, {5, 70}, {10, 60}}},
		{11, 60, []pair{{3, 90}, {5, 70}, {11, 60}}},
		{12, 60, []pair{{3, 90}, {5, 70}, {12, 60}}},
		{13, 60, []pair{{5, 70}, {13, 60}}},
		{15, 60, []pair{{15, 60}}},
		{15, 0, []pair{{15, 0}}},
		{maxTick, 60, []pair{{maxTick, 60}}},
		{11, 95, []pair{{11, 95}}},
	} {
		filter(t, l, x.round, x.rate, x.want, api.OK)
	}
	filter(t, nil, 0, 0, []pair{{0, 0}}, api.OK)
	filter(t, []pair{}, maxTick, most, []pair{{maxTick, most}}, api.OK)
	for _, n := range []int{4, 0, -1, maxTick + 1, math.MinInt, math.MaxInt} {
		filter(t, l, n, 5, nil, api.ErrRange)
	}
	for _, n := range []int{-1, maxTick + 1, math.MinInt, math.MaxInt} {
		filter(t, nil, n, 5, nil, api.ErrRange)
	}
	for _, n := range []int{-1, most + 1, math.MinInt, math.MaxInt} {
		filter(t, l, 6, n, nil, api.ErrRange)
		filter(t, nil, 6, n, nil, api.ErrRange)
	}
	// Ten of them are the most.
	ten := []pair{}
	for i := range 10 {
		ten = append(ten, pair{i, 100 - i})
	}
	filter(t, ten, 9, 5, ten, api.OK)
	filter(t, ten, 10, 5, append(slices.Clone(ten[1:]), pair{10, 5}), api.OK)
}

// faulty are lists that may not be.
func faulty() [][]pair {
	eleven := []pair{}
	for i := range 11 {
		eleven = append(eleven, pair{i, 100 - i})
	}
	return [][]pair{
		eleven, {{1, 100}, {1, 90}}, {{2, 100}, {1, 90}}, {{1, 100}, {2, 100}}, {{1, 100}, {2, 101}}, {{1, 9}, {2, 8}, {2, 7}}, {{1, 9}, {2, 8}, {3, 8}},
		{{-1, 5}}, {{maxTick + 1, 5}}, {{1, -1}}, {{1, most + 1}}, {{1, 5}, {maxTick + 1, 4}}, {{1, 5}, {2, -1}}, {{math.MinInt, 5}}, {{1, math.MaxInt}},
	}
}

func TestCheckP23_1(t *testing.T) {
	refused := func(s state) {
		t.Helper()
		if e := bbr.Check(s); e != api.ErrState {
			t.Errorf("Check(%+v) = %d; want ErrState", s, e)
		}
		acked(t, s, event{}, state{}, api.ErrState)
		acked(t, s, event{Now: -1}, state{}, api.ErrState) // ahead of ErrRange
		if got, e := bbr.Ack(s, 0, event{}); !same(got, state{}) || e != api.ErrState {
			t.Errorf("Ack of %+v: %+v, %d", s, got, e)
		}
		window(t, s, 1000, 0, api.ErrState)
		window(t, s, 0, 0, api.ErrState)
		rate(t, s, 0, api.ErrState)
	}
	for _, l := range faulty() {
		refused(state{Rates: l, Round: maxTick})
		filter(t, l, maxTick, 5, nil, api.ErrState)
		filter(t, l, -1, -1, nil, api.ErrState) // ahead of ErrRange
	}
	for _, x := range []struct {
		set func(s *state, n int)
		top int
	}{
		{func(s *state, n int) { s.Phase = n }, 3},
		{func(s *state, n int) { s.Cycle = n }, 7},
		{func(s *state, n int) { s.Rtt = n }, most},
		{func(s *state, n int) { s.RttAt = n }, maxTick},
		{func(s *state, n int) { s.FullRate = n }, maxTick},
		{func(s *state, n int) { s.FullRounds = n }, maxTick},
		{func(s *state, n int) { s.CycleAt = n }, maxTick},
		{func(s *state, n int) { s.Until = n }, maxTick},
		{func(s *state, n int) { s.Round = n }, maxTick},
	} {
		for _, n := range []int{-1, x.top + 1, math.MinInt, math.MaxInt} {
			var s state
			x.set(&s, n)
			refused(s)
		}
		for _, n := range []int{0, 1, x.top} {
			var s state
			x.set(&s, n)
			got, e := bbr.Ack(s, 1, event{Now: maxTick, Round: maxTick, Rate: most, Rtt: most, Flight: most, HasRate: true, HasRtt: true})
			if bbr.Check(s) != api.OK || e != api.OK || bbr.Check(got) != api.OK {
				t.Errorf("P23.5: Ack of %+v: %+v, %d", s, got, e)
			}
		}
	}
	top := state{Rates: []pair{{maxTick - 1, most}, {maxTick, 0}}, Round: maxTick}
	if e := bbr.Check(top); e != api.OK {
		t.Error("Check of the greatest:", e)
	}
}

func TestRangeP23_2(t *testing.T) {
	s := state{Rates: []pair{{3, 100}, {7, 50}}, Round: 5}
	ok := event{Now: 10, Round: 7, Rate: 30, Rtt: 20, Flight: 40}
	for _, mss := range []int{0, -1, 65536, math.MinInt, math.MaxInt} {
		if got, e := bbr.Ack(s, mss, ok); !same(got, state{}) || e != api.ErrRange {
			t.Errorf("Ack, mss %d: %+v, %d", mss, got, e)
		}
		window(t, s, mss, 0, api.ErrRange)
	}
	w := s
	w.Round, w.FullRate = 7, 100
	acked(t, s, ok, w, api.OK)
	for _, x := range []struct {
		set       func(e *event, n int)
		low, high int
	}{
		{func(e *event, n int) { e.Now = n }, 0, maxTick},
		{func(e *event, n int) { e.Round = n }, 7, maxTick}, // that of the last pair
		{func(e *event, n int) { e.Rate = n }, 0, most},
		{func(e *event, n int) { e.Rtt = n }, 0, most},
		{func(e *event, n int) { e.Flight = n }, 0, most},
	} {
		for _, n := range []int{x.low - 1, -1, x.high + 1, math.MinInt, math.MaxInt} {
			e := ok
			x.set(&e, n)
			acked(t, s, e, state{}, api.ErrRange)
			e.HasRate, e.HasRtt = true, true
			acked(t, s, e, state{}, api.ErrRange)
		}
		for _, n := range []int{x.low, x.high} {
			e := ok
			x.set(&e, n)
			w := s
			w.Round, w.FullRate = e.Round, 100
			acked(t, s, e, w, api.OK)
		}
	}
	s.Round = 9 // that of the state
	for round, fault := range map[int]api.Errno{8: api.ErrRange, 7: api.ErrRange, 9: api.OK} {
		w := state{}
		if fault == api.OK {
			w = s
		}
		acked(t, s, event{Round: round}, w, fault)
	}
}

// A round is new but once; the path is full behind three without a fourth more.
func TestFullP23_2(t *testing.T) {
	for _, x := range []struct {
		rate, fullRate, fullRounds int
		want                       state
	}{
		{1249, 1000, 0, state{FullRate: 1000, FullRounds: 1}},
		{1250, 1000, 0, state{FullRate: 1250}},
		{1251, 1000, 2, state{FullRate: 1251}},
		{1000, 1000, 1, state{FullRate: 1000, FullRounds: 2}},
		{900, 1000, 2, state{FullRate: 1000, FullRounds: 3, Full: true, Phase: 1}},
		{900, 1000, 7, state{FullRate: 1000, FullRounds: 8, Full: true, Phase: 1}},
		{900, 1000, maxTick, state{FullRate: 1000, FullRounds: maxTick, Full: true, Phase: 1}},
		{1000, 801, 0, state{FullRate: 801, FullRounds: 1}},
		{1000, 800, 0, state{FullRate: 1000}},
		{0, 0, 2, state{}},
		{most, maxTick, 0, state{FullRate: maxTick, FullRounds: 1}},
	} {
		s := state{FullRate: x.fullRate, FullRounds: x.fullRounds, Round: 4}
		x.want.Rates, x.want.Round = []pair{{5, x.rate}}, 5
		acked(t, s, event{Round: 5, Rate: x.rate, HasRate: true, Flight: 9999}, x.want, api.OK)
		// In the same round nothing of that happens.
		s.Round = 5
		w := s
		w.Rates = x.want.Rates
		acked(t, s, event{Round: 5, Rate: x.rate, HasRate: true, Flight: 9999}, w, api.OK)
		// Nor when it is full.
		s.Round, s.Full, s.Phase = 4, true, 1
		w = s
		w.Round, w.Rates = 5, x.want.Rates
		acked(t, s, event{Round: 5, Rate: x.rate, HasRate: true, Flight: 9999}, w, api.OK)
	}
	// Without a rate the greatest is the one that is known; without any 0.
	s := state{Rates: []pair{{1, 1250}}, FullRate: 1000, FullRounds: 1, Round: 4}
	w := s
	w.FullRate, w.FullRounds, w.Round = 1250, 0, 30
	acked(t, s, event{Round: 30, Rate: 9999}, w, api.OK)
	s.Rates = nil
	w = s
	w.FullRounds, w.Round = 2, 5
	acked(t, s, event{Round: 5, Rate: 9999}, w, api.OK)
}

func TestRttP23_2(t *testing.T) {
	for _, x := range []struct {
		has            bool
		rtt, at        int
		now, got       int
		wantRtt, wants int
		stale          bool
	}{
		{false, 0, 0, 50, 100, 100, 50, false},
		{false, 7, 0, 20000, 100, 100, 20000, false}, // what is none is not stale
		{true, 100, 10, 50, 101, 100, 10, false},
		{true, 100, 10, 50, 100, 100, 50, false},
		{true, 100, 10, 50, 99, 99, 50, false},
		{true, 100, 10, 50, 0, 0, 50, false},
		{true, 100, 10, 10249, 101, 100, 10, false},
		{true, 100, 10, 10250, 101, 101, 10250, true},
		{true, 100, 10, 10250, 99, 99, 10250, true},
		{true, 100, 60, 50, 101, 100, 60, false},
	} {
		for phase := range 4 {
			s := state{Phase: phase, HasRtt: x.has, Rtt: x.rtt, RttAt: x.at, Until: maxTick, CycleAt: maxTick, Full: phase > 0, Round: 3}
			w := s
			w.HasRtt, w.Rtt, w.RttAt = true, x.wantRtt, x.wants
			if x.stale && phase != 3 {
				w.Phase, w.Until = 3, x.now+200
			}
			acked(t, s, event{Now: x.now, Round: 3, Rtt: x.got, HasRtt: true, Flight: 9999}, w, api.OK)
			// Without a time nothing is stale.
			acked(t, s, event{Now: x.now, Round: 3, Rtt: x.got, Flight: 9999}, s, api.OK)
		}
	}
	s := state{HasRtt: true, Rtt: 5, RttAt: 3}
	w := state{Phase: 3, HasRtt: true, Rtt: 9, RttAt: maxTick - 199, Until: maxTick}
	acked(t, s, event{Now: maxTick - 199, Rtt: 9, HasRtt: true}, w, api.OK)
	w.RttAt = maxTick
	acked(t, s, event{Now: maxTick, Rtt: 9, HasRtt: true}, w, api.OK)
}

func TestDrainP23_2(t *testing.T) {
	// 1024 in 1024 ticks, and 100 ticks: 100 are on the way.
	for flight, phase := range map[int]int{0: 2, 99: 2, 100: 2, 101: 1, most: 1} {
		s := state{Phase: 1, Full: true, Rates: []pair{{3, 1024}}, HasRtt: true, Rtt: 100, Cycle: 5, CycleAt: 7, Round: 3}
		w := s
		w.Phase = phase
		if phase == 2 {
			w.Cycle, w.CycleAt = 0, 40
		}
		acked(t, s, event{Now: 40, Round: 3, Flight: flight}, w, api.OK)
		s.Phase = 0 // likewise where it became so just now
		acked(t, s, event{Now: 40, Round: 3, Flight: flight}, w, api.OK)
	}
	// Rounded down, and by the rate and the time of this event.
	s := state{Phase: 1, Full: true, Rates: []pair{{3, 1023}}, HasRtt: true, Rtt: 100, Round: 3}
	acked(t, s, event{Now: 40, Round: 3, Flight: 100}, s, api.OK)
	w := s
	w.Phase, w.CycleAt, w.Rates = 2, 40, []pair{{3, 1024}}
	acked(t, s, event{Now: 40, Round: 3, Flight: 100, Rate: 1024, HasRate: true}, w, api.OK)
	w = s
	w.Rtt, w.RttAt = 99, 40
	acked(t, s, event{Now: 40, Round: 3, Flight: 99, Rtt: 99, HasRtt: true}, w, api.OK)
	w.Phase, w.CycleAt = 2, 40
	acked(t, s, event{Now: 40, Round: 3, Flight: 98, Rtt: 99, HasRtt: true}, w, api.OK)
	// Nothing is on the way of a path of which nothing is known.
	s = state{Phase: 1}
	acked(t, s, event{Flight: 1}, s, api.OK)
	acked(t, s, event{}, state{Phase: 2}, api.OK)
}

func TestCyclesP23_2(t *testing.T) {
	for cycle := range 8 {
		s := state{Phase: 2, Full: true, HasRtt: true, Rtt: 30, RttAt: 90, Cycle: cycle, CycleAt: 100}
		for now, on := range map[int]bool{50: false, 100: false, 129: false, 130: true, 500: true} {
			w := s
			if on {
				w.Cycle, w.CycleAt = (cycle+1)%8, now
			}
			acked(t, s, event{Now: now}, w, api.OK)
		}
		s.Rtt = 0 // at least a tick
		acked(t, s, event{Now: 100}, s, api.OK)
		w := s
		w.Cycle, w.CycleAt = (cycle+1)%8, 101
		acked(t, s, event{Now: 101}, w, api.OK)
	}
	// By the time of this event.
	s := state{Phase: 2, Full: true, HasRtt: true, Rtt: 30, RttAt: 90, CycleAt: 100}
	w := state{Phase: 2, Full: true, HasRtt: true, Rtt: 20, RttAt: 120, CycleAt: 120, Cycle: 1}
	acked(t, s, event{Now: 120, Rtt: 20, HasRtt: true}, w, api.OK)
}

func TestProbeP23_2(t *testing.T) {
	s := state{Phase: 3, HasRtt: true, Rtt: 30, RttAt: 90, Cycle: 5, CycleAt: 100, Until: 300}
	acked(t, s, event{Now: 299}, s, api.OK)
	for _, now := range []int{300, 301, maxTick} {
		w := s
		w.Phase, w.RttAt = 0, now
		acked(t, s, event{Now: now}, w, api.OK)
		x := s
		x.Full = true
		w = x
		w.Phase, w.RttAt, w.Cycle, w.CycleAt = 2, now, 0, now
		acked(t, x, event{Now: now}, w, api.OK)
	}
	// It begins behind what step 4 did, and ends no sooner than at the next event.
	s = state{Phase: 0, Full: true, HasRtt: true, Rtt: 30, RttAt: 90, Rates: []pair{{3, 1024}}, Round: 3}
	w := state{Phase: 3, Full: true, HasRtt: true, Rtt: 40, RttAt: 20000, Rates: []pair{{3, 1024}}, Round: 3, CycleAt: 20000, Until: 20200}
	acked(t, s, event{Now: 20000, Round: 3, Rtt: 40, HasRtt: true, Flight: 40}, w, api.OK)
	w.CycleAt = 0
	acked(t, s, event{Now: 20000, Round: 3, Rtt: 40, HasRtt: true, Flight: 41}, w, api.OK)
	// Where a stale one comes while it probes, it may end.
	s = state{Phase: 3, HasRtt: true, Rtt: 30, RttAt: 90, Until: 300}
	w = state{Phase: 0, HasRtt: true, Rtt: 40, RttAt: 20000, Until: 300}
	acked(t, s, event{Now: 20000, Rtt: 40, HasRtt: true}, w, api.OK)
}

func TestWindowP23_3(t *testing.T) {
	path := func(phase, r, rtt int) state {
		return state{Phase: phase, Rates: []pair{{1, r}, {2, r - 1}}, HasRtt: true, Rtt: rtt}
	}
	for _, x := range []struct {
		s         state
		mss, want int
	}{
		{state{}, 1000, 10000}, {state{Phase: 1}, 1000, 10000}, {state{Phase: 2}, 65535, 655350}, {state{Phase: 3}, 1000, 4000},
		{state{Rates: []pair{{1, 100000}}, Rtt: 100}, 1000, 10000},
		{state{HasRtt: true, Rtt: 100}, 1000, 10000},
		{path(3, 100000, 100), 1000, 4000}, {path(3, most, most), 65535, 262140},
		{path(0, 102400, 100), 1000, 28867}, {path(1, 102400, 100), 1000, 28867}, {path(2, 102400, 100), 1000, 20000},
		{path(0, 102410, 100), 1000, 28867}, // 10000 on the way; the 9 tenths behind that do not count
		{path(0, 5000, 1), 1, 11}, {path(2, 5000, 1), 1, 8}, {path(2, 1023, 1), 1, 4}, {path(2, 1024, 2), 1, 4}, {path(2, 1024, 3), 1, 6},
		{path(0, 1024, 1385), 1000, 4000}, {path(0, 1024, 1386), 1000, 4000}, {path(0, 1024, 1387), 1000, 4003},
		{path(2, 1024, 1999), 1000, 4000}, {path(2, 1024, 2001), 1000, 4002}, {path(2, 1024, 0), 1, 4},
		{path(0, most, most), 1, most}, {path(2, 1024, most/2), 1, most}, {path(2, 1024, most/2-1), 1, most - 2},
	} {
		window(t, x.s, x.mss, x.want, api.OK)
	}
}

func TestRateP23_3(t *testing.T) {
	s := state{Rates: []pair{{1, 1000}, {2, 900}}}
	for phase, want := range []int{1000 * 739 / 256, 343, 1250, 1000} {
		s.Phase = phase
		rate(t, s, want, api.OK)
	}
	s.Phase = 2
	for cycle, want := range []int{1250, 750, 1000, 1000, 1000, 1000, 1000, 1000} {
		s.Cycle = cycle
		rate(t, s, want, api.OK)
		for _, phase := range []int{0, 1, 3} { // of others it says nothing
			x := s
			x.Phase = phase
			rate(t, x, []int{2886, 343, 0, 1000}[phase], api.OK)
		}
	}
	for phase := range 4 {
		rate(t, state{Phase: phase}, 0, api.OK)
		rate(t, state{Phase: phase, HasRtt: true, Rtt: 50}, 0, api.OK)
		rate(t, state{Phase: phase, Rates: []pair{{1, 0}}}, 1, api.OK)
		rate(t, state{Phase: phase, Rates: []pair{{1, most}}}, []int{most, most / 256 * 88, most, most}[phase], api.OK)
	}
	rate(t, state{Phase: 1, Rates: []pair{{1, 2}}}, 1, api.OK)
	rate(t, state{Phase: 1, Rates: []pair{{1, 6}}}, 2, api.OK)
}

// history is all that a filter was told.
type history []pair

// filter gives, of the last ten rounds, those rates that none behind them reaches.
func (h history) filter() []pair {
	var out []pair
	for i, p := range h {
		good := p.Round > h[len(h)-1].Round-10
		for j, q := range h {
			if j > i && q.Rate >= p.Rate || q.Round == p.Round && q.Rate > p.Rate {
				good = false
			}
		}
		if good {
			out = append(out, p)
		}
	}
	return out
}

func TestFilterModelP23_4(t *testing.T) {
	longest := 0
	for seed := range 300 {
		r := rand.New(rand.NewSource(int64(seed)))
		var h history
		var l []pair
		round := 0
		for range 150 {
			round += r.Intn(2 + r.Intn(2)*r.Intn(6))
			x := r.Intn(2 + seed)
			if seed%3 == 0 {
				x = max(0, 5000-40*round-r.Intn(60)) // falling ones make long lists
			}
			h = append(h, pair{round, x})
			var e api.Errno
			l, e = bbr.Filter(l, round, x)
			if want := h.filter(); e != api.OK || !slices.Equal(l, want) {
				t.Fatalf("seed %d: %v, %d; want %v", seed, l, e, want)
			}
			greatest := 0
			for _, p := range h {
				if p.Round > round-10 {
					greatest = max(greatest, p.Rate)
				}
			}
			if l[0].Rate != greatest {
				t.Fatalf("P23.4: seed %d: the first is %v; the greatest %d", seed, l[0], greatest)
			}
			longest = max(longest, len(l))
		}
	}
	if longest != 10 {
		t.Error("the longest list had", longest)
	}
}

// reckon is Ack by the words; h is all that the filter was told.
func reckon(s state, h history, e event) (state, history) {
	if e.HasRate {
		h = append(slices.Clone(h), pair{e.Round, e.Rate})
		s.Rates = h.filter()
	}
	greatest := 0
	if len(s.Rates) > 0 {
		greatest = s.Rates[0].Rate
	}
	isNew := e.Round > s.Round
	s.Round = e.Round
	if isNew && !s.Full {
		if s.FullRate+(s.FullRate+3)/4 <= greatest {
			s.FullRate, s.FullRounds = greatest, 0
		} else {
			s.FullRounds++
			if s.FullRounds >= 3 {
				s.Full = true
			}
		}
	}
	stale := false
	if e.HasRtt {
		stale = s.HasRtt && e.Now-s.RttAt >= 10240
		if stale || !s.HasRtt || e.Rtt <= s.Rtt {
			s.Rtt, s.RttAt, s.HasRtt = e.Rtt, e.Now, true
		}
	}
	way := int(new(big.Int).Rsh(new(big.Int).Mul(big.NewInt(int64(greatest)), big.NewInt(int64(s.Rtt))), 10).Int64())
	if s.Phase == 0 && s.Full {
		s.Phase = 1
	} else if s.Phase == 2 {
		wait := s.Rtt
		if wait == 0 {
			wait = 1
		}
		if e.Now-s.CycleAt >= wait {
			s.Cycle++
			if s.Cycle == 8 {
				s.Cycle = 0
			}
			s.CycleAt = e.Now
		}
	}
	if s.Phase == 1 && e.Flight <= way {
		s.Phase, s.Cycle, s.CycleAt = 2, 0, e.Now
	}
	if s.Phase != 3 {
		if stale {
			s.Phase, s.Until = 3, min(maxTick, e.Now+200)
		}
	} else if e.Now >= s.Until {
		s.RttAt = e.Now
		if s.Full {
			s.Phase, s.Cycle, s.CycleAt = 2, 0, e.Now
		} else {
			s.Phase = 0
		}
	}
	return s, h
}

func TestModelP23_2(t *testing.T) {
	visits := [4]int{}
	for seed := range 300 {
		r := rand.New(rand.NewSource(int64(seed)))
		var s state
		var h history
		now, round, top := 0, 0, 1+r.Intn(1<<20)
		for range 300 {
			now += r.Intn(100) * (1 + 30*(r.Intn(30)/29)*r.Intn(5))
			round += r.Intn(4) / 3
			e := event{Now: now, Round: round, Rate: r.Intn(top), Rtt: 20 + r.Intn(50), Flight: r.Intn(top / 8), HasRate: r.Intn(3) > 0, HasRtt: r.Intn(3) > 0}
			if seed%2 == 0 {
				e.Rate = min(e.Rate, 100<<min(round, 20)) // it grows for a while
			}
			if !e.HasRtt && r.Intn(2) == 0 {
				e.Rtt = 0
			}
			var w state
			w, h = reckon(s, h, e)
			acked(t, s, e, w, api.OK)
			if t.Failed() {
				t.Fatal("seed", seed)
			}
			if w.Phase != s.Phase {
				visits[w.Phase]++
			}
			s = w
			greatest := 0
			if len(s.Rates) > 0 {
				greatest = s.Rates[0].Rate
			}
			mss := 1 + r.Intn(2000)
			want := greatest * s.Rtt / 1024 * []int{739, 739, 512, 0}[s.Phase] / 256
			if s.Phase < 3 && (len(s.Rates) == 0 || !s.HasRtt) {
				want = 10 * mss
			}
			window(t, s, mss, min(most, max(want, 4*mss)), api.OK)
			gain := []int{739, 88, []int{320, 192, 256, 256, 256, 256, 256, 256}[s.Cycle], 256}[s.Phase]
			want = min(most, max(1, greatest*gain/256))
			if len(s.Rates) == 0 {
				want = 0
			}
			rate(t, s, want, api.OK)
		}
	}
	for phase, n := range visits {
		if n < 20 {
			t.Errorf("phase %d was come to %d times", phase, n)
		}
	}
}

// Startup ends by three rounds without a fourth more, not ahead.
func TestStartupP23_6(t *testing.T) {
	for seed := range 300 {
		r := rand.New(rand.NewSource(int64(seed)))
		var s state
		full, without, greatest := 0, 0, 0
		for round := 1; round <= 40; round++ {
			x := r.Intn(1 + full*2)
			if r.Intn(3) > 0 {
				x = full + full/4 + r.Intn(3) - 1
			}
			x = max(x, 0)
			for i := range 1 + r.Intn(3) { // but one event of each round counts
				e := event{Now: round, Round: round, Rate: x, HasRate: true, Flight: most}
				if i > 0 {
					e.Rate = r.Intn(x + 1)
				}
				var fault api.Errno
				s, fault = bbr.Ack(s, 1000, e)
				if fault != api.OK {
					t.Fatal("Ack:", fault)
				}
			}
			greatest = s.Rates[0].Rate
			if 4*greatest >= 5*full {
				full, without = greatest, 0
			} else {
				without++
			}
			if ended := s.Phase != 0; ended != (without == 3) {
				t.Fatalf("seed %d, round %d: phase %d behind %d rounds", seed, round, s.Phase, without)
			}
			if without == 3 {
				break
			}
		}
	}
}

// From any state that may be, whatever comes: what follows may be.
func TestFollowsP23_5(t *testing.T) {
	for seed := range 5000 {
		r := rand.New(rand.NewSource(int64(seed)))
		tick := func() int { return r.Intn(maxTick+1) >> r.Intn(40) }
		s := state{
			Phase: r.Intn(4), HasRtt: r.Intn(2) == 0, Rtt: r.Intn(most+1) >> r.Intn(30), RttAt: tick(), Full: r.Intn(2) == 0,
			FullRate: tick(), FullRounds: tick(), Cycle: r.Intn(8), CycleAt: tick(), Until: tick(), Round: tick(),
		}
		at, x := 0, most
		for range r.Intn(11) {
			at, x = at+1+r.Intn(1<<r.Intn(30)), x-1-r.Intn(1<<r.Intn(25))
			s.Rates = append(s.Rates, pair{at, x})
		}
		for range 20 {
			e := event{
				Now: tick(), Round: maxTick - r.Intn(maxTick-max(at, s.Round)+1), Rate: r.Intn(most+1) >> r.Intn(30), Rtt: r.Intn(most+1) >> r.Intn(30),
				Flight: r.Intn(most+1) >> r.Intn(30), HasRate: r.Intn(2) == 0, HasRtt: r.Intn(2) == 0,
			}
			next, fault := bbr.Ack(s, 1+r.Intn(65535), e)
			if fault != api.OK || bbr.Check(next) != api.OK {
				t.Fatalf("seed %d: Ack(%+v, %+v) = %+v, %d", seed, s, e, next, fault)
			}
			s = next
			w, e1 := bbr.Window(s, 1)
			x, e2 := bbr.Rate(s)
			if w < 4 || w > most || x < 0 || x > most || e1 != api.OK || e2 != api.OK {
				t.Fatalf("seed %d: Window, Rate of %+v: %d, %d", seed, s, w, x)
			}
			if len(s.Rates) > 0 {
				at = s.Rates[len(s.Rates)-1].Round
			}
		}
	}
}

func TestMemoryP23_7(t *testing.T) {
	l := []pair{{1, 100}, {3, 90}, {5, 70}}
	kept := slices.Clone(l)
	spoil := func(l []pair) {
		for i := range l[:cap(l)] {
			l[:cap(l)][i] = pair{-1, -1}
		}
	}
	for _, x := range []pair{{6, 60}, {6, 95}, {6, 200}, {5, 60}, {5, 70}, {14, 1}} {
		got, _ := bbr.Filter(l, x.Round, x.Rate)
		again, _ := bbr.Filter(l, x.Round, x.Rate)
		want := slices.Clone(again)
		spoil(got)
		if !slices.Equal(l, kept) || !slices.Equal(again, want) {
			t.Error("an answer of Filter shares memory, or an argument was changed:", l, again)
		}
	}
	for _, has := range []bool{false, true} {
		s := state{Rates: slices.Clone(kept), Round: 5}
		e := event{Round: 6, Rate: 95, HasRate: has}
		got, _ := bbr.Ack(s, 1000, e)
		spoil(got.Rates)
		if !slices.Equal(s.Rates, kept) {
			t.Error("an answer of Ack shares memory, or an argument was changed:", s.Rates)
		}
		got, _ = bbr.Ack(s, 1000, e)
		want := slices.Clone(got.Rates)
		spoil(s.Rates)
		if !slices.Equal(got.Rates, want) {
			t.Error("an argument of Ack shares memory with its answer:", got.Rates)
		}
	}
}
