package rtt_test

import (
	"math"
	"math/big"
	"math/rand"
	"testing"

	"stopcock/api"
	"stopcock/rtt"
)

const (
	most  = 1 << 30
	great = 1 << 34
)

// plain may be; its bounds are far apart.
var plain = rtt.Params{Init: 50, Min: 10, Max: most, Grain: 1}

func sampled(t *testing.T, p rtt.Params, s rtt.State, r int, want rtt.State, fault api.Errno) {
	t.Helper()
	got, e := rtt.Sample(p, s, r)
	if got != want || e != fault {
		t.Errorf("Sample(%+v, %+v, %d) = %+v, %d; want %+v, %d", p, s, r, got, e, want, fault)
	}
}

func backed(t *testing.T, p rtt.Params, s, want rtt.State, fault api.Errno) {
	t.Helper()
	if got, e := rtt.Back(p, s); got != want || e != fault {
		t.Errorf("Back(%+v, %+v) = %+v, %d; want %+v, %d", p, s, got, e, want, fault)
	}
}

func waits(t *testing.T, p rtt.Params, s rtt.State, want int, fault api.Errno) {
	t.Helper()
	if got, e := rtt.RTO(p, s); got != want || e != fault {
		t.Errorf("RTO(%+v, %+v) = %d, %d; want %d, %d", p, s, got, e, want, fault)
	}
}

func refused(t *testing.T, p rtt.Params, s rtt.State, want api.Errno) {
	t.Helper()
	sampled(t, p, s, 5, rtt.State{}, want)
	sampled(t, p, s, -1, rtt.State{}, want) // ahead of ErrRange
	backed(t, p, s, rtt.State{}, want)
	waits(t, p, s, 0, want)
}

func TestExample(t *testing.T) {
	p := rtt.Params{Init: 1, Min: 10, Max: 1000, Grain: 1}
	s, e := rtt.Sample(p, rtt.State{}, 100)
	if e != api.OK {
		t.Fatal("Sample:", e)
	}
	waits(t, p, s, 300, api.OK)
	s, _ = rtt.Sample(p, s, 100)
	if s.Var != 150 {
		t.Error("Var:", s.Var)
	}
	waits(t, p, s, 250, api.OK)
}

func TestCheckP18_1(t *testing.T) {
	set := []func(p *rtt.Params, n int){
		func(p *rtt.Params, n int) { p.Init = n },
		func(p *rtt.Params, n int) { p.Min = n },
		func(p *rtt.Params, n int) { p.Max = n },
		func(p *rtt.Params, n int) { p.Grain = n },
	}
	for i, f := range set {
		for _, n := range []int{0, -1, most + 1, math.MinInt, math.MaxInt} {
			p := rtt.Params{Init: 1, Min: 1, Max: most, Grain: 1}
			if i == 2 {
				p.Min = math.MinInt
			}
			f(&p, n)
			if e := rtt.Check(p); e != api.ErrConfig {
				t.Errorf("Check(%+v) = %d; want ErrConfig", p, e)
			}
			refused(t, p, rtt.State{}, api.ErrConfig)
			refused(t, p, rtt.State{Back: -1}, api.ErrConfig) // ahead of ErrState
		}
		for _, n := range []int{1, 2, most - 1, most} {
			p := rtt.Params{Init: 1, Min: 1, Max: most, Grain: 1}
			f(&p, n)
			if e := rtt.Check(p); e != api.OK {
				t.Errorf("Check(%+v) = %d", p, e)
			}
		}
	}
	for _, x := range []struct {
		min, max int
		want     api.Errno
	}{{1, 1, api.OK}, {7, 7, api.OK}, {7, 8, api.OK}, {8, 7, api.ErrConfig}, {most, most, api.OK}, {most, most - 1, api.ErrConfig}} {
		if e := rtt.Check(rtt.Params{Init: 1, Min: x.min, Max: x.max, Grain: 1}); e != x.want {
			t.Errorf("Check of Min %d, Max %d: %d; want %d", x.min, x.max, e, x.want)
		}
	}
	// Init and Grain may lie outside of Min to Max.
	if e := rtt.Check(rtt.Params{Init: most, Min: 5, Max: 5, Grain: most}); e != api.OK {
		t.Error("Check:", e)
	}
}

func TestStateP18_1(t *testing.T) {
	for _, has := range []bool{false, true} {
		for _, n := range []int{-1, great + 1, math.MinInt, math.MaxInt} {
			refused(t, plain, rtt.State{Has: has, Srtt: n}, api.ErrState)
			refused(t, plain, rtt.State{Has: has, Var: n}, api.ErrState)
		}
		for _, n := range []int{-1, 17, math.MinInt, math.MaxInt} {
			refused(t, plain, rtt.State{Has: has, Back: n}, api.ErrState)
		}
		for _, n := range []int{0, great} {
			s := rtt.State{Has: has, Srtt: n, Var: n, Back: 16}
			backed(t, plain, s, s, api.OK)
		}
	}
}

func TestSampleP18_2(t *testing.T) {
	for _, n := range []int{-1, most + 1, math.MinInt, math.MaxInt} {
		sampled(t, plain, rtt.State{}, n, rtt.State{}, api.ErrRange)
		sampled(t, plain, rtt.State{Has: true, Srtt: 800, Var: 200}, n, rtt.State{}, api.ErrRange)
	}
	// The first.
	for _, r := range []int{0, 1, 7, 100, most} {
		sampled(t, plain, rtt.State{}, r, rtt.State{Has: true, Srtt: 8 * r, Var: 2 * r}, api.OK)
		sampled(t, plain, rtt.State{Srtt: 5, Var: 6, Back: 7}, r, rtt.State{Has: true, Srtt: 8 * r, Var: 2 * r}, api.OK)
	}
	// The others.
	for _, x := range []struct{ srtt, dev, r, wantSrtt, wantDev int }{
		{800, 200, 100, 800, 150}, {800, 200, 108, 808, 158}, {800, 200, 92, 792, 158}, {800, 200, 0, 700, 250},
		{807, 200, 100, 807, 150}, {801, 200, 101, 802, 151}, {799, 200, 99, 799, 150}, {7, 3, 0, 7, 3}, {0, 0, 1, 1, 1},
		{800, 7, 100, 800, 6}, {800, 5, 100, 800, 4}, {800, 4, 100, 800, 3}, {800, 3, 100, 800, 3}, {800, 0, 100, 800, 0},
		{0, 0, most, most, most}, {great, great, 0, great - great/8, great - great/4 + great/8}, {great, great, most, great - great/8 + most, great - great/4 + great/8 - most},
	} {
		s := rtt.State{Has: true, Srtt: x.srtt, Var: x.dev, Back: 3}
		sampled(t, plain, s, x.r, rtt.State{Has: true, Srtt: x.wantSrtt, Var: x.wantDev}, api.OK)
	}
}

func TestBackP18_2(t *testing.T) {
	for _, has := range []bool{false, true} {
		s := rtt.State{Has: has, Srtt: 800, Var: 200}
		for n := range 20 {
			want := s
			want.Back = min(n+1, 16)
			backed(t, plain, s, want, api.OK)
			s = want
		}
	}
}

func TestRTOP18_2(t *testing.T) {
	for _, x := range []struct {
		p    rtt.Params
		s    rtt.State
		want int
	}{
		{plain, rtt.State{}, 50},
		{plain, rtt.State{Srtt: 8000, Var: 99}, 50},
		{rtt.Params{Init: 5, Min: 10, Max: 20, Grain: 1}, rtt.State{}, 10},
		{rtt.Params{Init: 25, Min: 10, Max: 20, Grain: 1}, rtt.State{}, 20},
		{plain, rtt.State{Back: 1}, 100},
		{plain, rtt.State{Back: 16}, 50 << 16},
		{rtt.Params{Init: 5, Min: 10, Max: 100, Grain: 1}, rtt.State{Back: 3}, 80}, // at least Min, and then twice
		{rtt.Params{Init: 5, Min: 10, Max: 100, Grain: 1}, rtt.State{Back: 4}, 100},
		{plain, rtt.State{Has: true, Srtt: 800, Var: 200}, 300},
		{plain, rtt.State{Has: true, Srtt: 807, Var: 200}, 300},
		{plain, rtt.State{Has: true, Srtt: 800, Var: 0}, 101},
		{plain, rtt.State{Has: true, Srtt: 800, Var: 1}, 101},
		{plain, rtt.State{Has: true, Srtt: 800, Var: 2}, 102},
		{rtt.Params{Init: 1, Min: 1, Max: 1000, Grain: 70}, rtt.State{Has: true, Srtt: 80, Var: 69}, 80},
		{rtt.Params{Init: 1, Min: 1, Max: 1000, Grain: 70}, rtt.State{Has: true, Srtt: 80, Var: 71}, 81},
		{plain, rtt.State{Has: true, Srtt: 8, Var: 2}, 10},
		{plain, rtt.State{Has: true, Srtt: 8, Var: 2, Back: 2}, 40},
		{plain, rtt.State{Has: true, Srtt: 800, Var: 200, Back: 5}, 9600},
		{plain, rtt.State{Has: true, Srtt: great, Var: great, Back: 16}, most},
		{plain, rtt.State{Has: true, Srtt: great, Var: 0}, most},
		{rtt.Params{Init: most, Min: most, Max: most, Grain: most}, rtt.State{Has: true, Back: 16}, most},
	} {
		waits(t, x.p, x.s, x.want, api.OK)
	}
}

// anyState gives numbers of all sizes.
func anyState(r *rand.Rand) (rtt.Params, rtt.State) {
	n := func(top int) int { return min(top, r.Intn(top)>>r.Intn(34)+r.Intn(2)) }
	p := rtt.Params{Init: 1 + n(most-1), Min: 1 + n(most-1), Max: 1 + n(most-1), Grain: 1 + n(most-1)}
	p.Min, p.Max = min(p.Min, p.Max), max(p.Min, p.Max)
	return p, rtt.State{Has: r.Intn(3) > 0, Srtt: n(great), Var: n(great), Back: r.Intn(17)}
}

func TestModelP18_2(t *testing.T) {
	floor := func(a, b int) int { return int(math.Floor(float64(a) / float64(b))) } // exact up to 2^53
	for seed := range 50000 {
		r := rand.New(rand.NewSource(int64(seed)))
		p, s := anyState(r)
		x := r.Intn(most+1) >> r.Intn(30)
		want := rtt.State{Has: true, Srtt: 8 * x, Var: 2 * x}
		if s.Has {
			d := x - floor(s.Srtt, 8)
			want.Var = s.Var - floor(s.Var, 4) + int(math.Abs(float64(d)))
			want.Srtt = s.Srtt + d
		}
		sampled(t, p, s, x, want, api.OK)
		if e := refusedBy(p, want); e != api.OK {
			t.Fatal("P18.5: the state that follows may not be:", want)
		}
		wait := big.NewInt(int64(p.Init))
		if s.Has {
			wait = big.NewInt(int64(floor(s.Srtt, 8) + max(p.Grain, s.Var)))
		}
		if wait.Cmp(big.NewInt(int64(p.Min))) < 0 {
			wait = big.NewInt(int64(p.Min))
		}
		wait.Lsh(wait, uint(s.Back))
		if wait.Cmp(big.NewInt(int64(p.Max))) > 0 {
			wait = big.NewInt(int64(p.Max))
		}
		waits(t, p, s, int(wait.Int64()), api.OK)
		if t.Failed() {
			t.Fatal("seed", seed)
		}
	}
}

func refusedBy(p rtt.Params, s rtt.State) api.Errno {
	_, e := rtt.RTO(p, s)
	return e
}

func TestBoundsP18_3(t *testing.T) {
	for seed := range 20000 {
		r := rand.New(rand.NewSource(int64(seed)))
		p, s := anyState(r)
		last := 0
		for s.Back = range 17 {
			n, e := rtt.RTO(p, s)
			if e != api.OK || n < p.Min || n > p.Max || n < last {
				t.Fatalf("RTO(%+v, %+v) = %d, %d; the last was %d", p, s, n, e, last)
			}
			last = n
		}
	}
}

func TestSameSamplesP18_4(t *testing.T) {
	for _, r := range []int{0, 1, 2, 3, 7, 100, 12345, most} {
		var s rtt.State
		for i := range 60 {
			x, e := rtt.Sample(plain, s, r)
			if e != api.OK || x.Srtt/8 != r || i > 0 && (x.Var > s.Var || s.Var > 3 && x.Var == s.Var) {
				t.Fatalf("sample %d of %d: %+v behind %+v, %d", i, r, x, s, e)
			}
			s = x
		}
	}
}

// From any state samples of whatever size lead to states that may be.
func TestFollowsP18_5(t *testing.T) {
	for seed := range 500 {
		r := rand.New(rand.NewSource(int64(seed)))
		p, s := anyState(r)
		for range 100 {
			var e api.Errno
			switch r.Intn(4) {
			case 0:
				s, e = rtt.Back(p, s)
			case 1:
				s, e = rtt.Sample(p, s, most*r.Intn(2))
			default:
				s, e = rtt.Sample(p, s, r.Intn(most+1))
			}
			if e != api.OK || refusedBy(p, s) != api.OK {
				t.Fatalf("seed %d: %+v, %d", seed, s, e)
			}
		}
	}
}

// Calls hang on their arguments alone (P18.6: nothing is kept).
func TestNothingKeptP18_6(t *testing.T) {
	s := rtt.State{Has: true, Srtt: 800, Var: 200, Back: 2}
	for range 3 {
		sampled(t, plain, s, 108, rtt.State{Has: true, Srtt: 808, Var: 158}, api.OK)
		backed(t, plain, s, rtt.State{Has: true, Srtt: 800, Var: 200, Back: 3}, api.OK)
		waits(t, plain, s, 1200, api.OK)
	}
}
