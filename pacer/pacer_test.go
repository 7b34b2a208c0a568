package pacer_test

import (
	"math"
	"math/big"
	"math/rand"
	"slices"
	"testing"

	"stopcock/api"
	"stopcock/pacer"
)

const maxTick = 1 << 40

func depart(t *testing.T, next, size, rate, quantum, now, wantNext, want int) {
	t.Helper()
	s, d, e := pacer.Depart(pacer.State{Next: next}, size, rate, quantum, now)
	if s.Next != wantNext || d != want || e != api.OK {
		t.Errorf("Depart(%d, %d, %d, %d, %d) = %d, %d, %d; want %d, %d", next, size, rate, quantum, now, s.Next, d, e, wantNext, want)
	}
}

func refused(t *testing.T, next, size, rate, quantum, now int) {
	t.Helper()
	if s, d, e := pacer.Depart(pacer.State{Next: next}, size, rate, quantum, now); s != (pacer.State{}) || d != 0 || e != api.ErrRange {
		t.Errorf("Depart(%d, %d, %d, %d, %d) = %v, %d, %d; want ErrRange", next, size, rate, quantum, now, s, d, e)
	}
}

func push(t *testing.T, p *pacer.Pacer, id, size, rate, quantum, now, want int, fault api.Errno) {
	t.Helper()
	n := p.Len()
	if fault == api.OK {
		n++
	}
	if d, e := p.Push(id, size, rate, quantum, now); d != want || e != fault || p.Len() != n {
		t.Errorf("Push(%d, %d, %d, %d, %d) = %d, %d, Len %d; want %d, %d, %d", id, size, rate, quantum, now, d, e, p.Len(), want, fault, n)
	}
}

func released(t *testing.T, p *pacer.Pacer, now int, want ...int) {
	t.Helper()
	n := p.Len() - len(want)
	if l, e := p.Release(now); !slices.Equal(l, want) || e != api.OK || p.Len() != n {
		t.Errorf("Release(%d) = %v, %d, Len %d; want %v, Len %d", now, l, e, p.Len(), want, n)
	}
}

func disorder(t *testing.T, p *pacer.Pacer, now int) {
	t.Helper()
	n := p.Len()
	if l, e := p.Release(now); len(l) != 0 || e != api.ErrOrder || p.Len() != n {
		t.Errorf("Release(%d) = %v, %d, Len %d; want ErrOrder", now, l, e, p.Len())
	}
}

func TestExample(t *testing.T) {
	p := pacer.New()
	push(t, p, 1, 100, 1024, 0, 50, 50, api.OK)
	push(t, p, 2, 100, 1024, 0, 50, 150, api.OK)
	p = pacer.New()
	push(t, p, 1, 100, 1024, 100, 200, 200, api.OK)
	push(t, p, 2, 100, 1024, 100, 200, 200, api.OK)
	push(t, p, 3, 100, 1024, 100, 200, 300, api.OK)
}

func TestDepartP14_1(t *testing.T) {
	depart(t, 0, 100, 1024, 0, 0, 100, 0)
	depart(t, 0, 100, 1024, 0, 50, 150, 50)
	depart(t, 150, 100, 1024, 0, 50, 250, 150)
	depart(t, 150, 100, 1024, 0, 150, 250, 150)
	depart(t, 150, 100, 1024, 0, 151, 251, 151)
	// What a packet costs is rounded up.
	depart(t, 0, 1, 1024, 0, 0, 1, 0)
	depart(t, 0, 1, 1025, 0, 0, 1, 0)
	depart(t, 0, 1, 1<<30, 0, 0, 1, 0)
	depart(t, 0, 1, 1023, 0, 0, 2, 0)
	depart(t, 0, 1, 1, 0, 0, 1024, 0)
	depart(t, 0, 65535, 1, 0, 0, 65535*1024, 0)
	depart(t, 0, 3, 2048, 0, 0, 2, 0)
	depart(t, 0, 2, 2048, 0, 0, 1, 0)
	depart(t, 0, 65535, 1<<30, 0, 9, 10, 9)
	// What a quantum allows is rounded down.
	depart(t, 0, 100, 1024, 100, 200, 200, 200)
	depart(t, 200, 100, 1024, 100, 200, 300, 200)
	depart(t, 300, 100, 1024, 100, 200, 400, 300)
	depart(t, 0, 1024, 2048, 1, 1000, 1512, 1000)
	depart(t, 0, 1024, 2048, 2, 1000, 1511, 1000)
	depart(t, 0, 1024, 2048, 3, 1000, 1511, 1000)
	depart(t, 0, 1024, 1<<30, 1<<20, 1000, 1000, 1000) // a slack of 1, a cost of 1
	depart(t, 0, 1, 1<<30, 1<<20-1, 1000, 1001, 1000)
	depart(t, 0, 1, 1, 1<<20, 1<<30+5, 5+1024, 1<<30+5)
	depart(t, 0, 1, 1, 1<<20, 1<<30-5, 1024, 1<<30-5) // not ahead of 0
	depart(t, 7, 1, 1, 1<<20, 1<<30-5, 7+1024, 1<<30-5)
	// Next is held at MaxTick.
	depart(t, maxTick, 1, 1024, 0, 0, maxTick, maxTick)
	depart(t, maxTick-1, 1, 1024, 0, maxTick, maxTick, maxTick)
	depart(t, maxTick-101, 100, 1024, 0, 5, maxTick-1, maxTick-101)
	depart(t, maxTick-100, 100, 1024, 0, 5, maxTick, maxTick-100)
	depart(t, maxTick-99, 100, 1024, 0, 5, maxTick, maxTick-99)
	depart(t, 0, 65535, 1, 0, maxTick, maxTick, maxTick)
	depart(t, 0, 100, 1024, 200, maxTick, maxTick-100, maxTick)
}

func TestDepartRangeP14_1(t *testing.T) {
	for _, n := range []int{0, -1, 65536, math.MinInt, math.MaxInt} {
		refused(t, 0, n, 1, 0, 0)
	}
	for _, n := range []int{0, -1, 1<<30 + 1, math.MinInt, math.MaxInt} {
		refused(t, 0, 1, n, 0, 0)
	}
	for _, n := range []int{-1, 1<<20 + 1, math.MinInt, math.MaxInt} {
		refused(t, 0, 1, 1, n, 0)
	}
	for _, n := range []int{-1, maxTick + 1, math.MinInt, math.MaxInt} {
		refused(t, 0, 1, 1, 0, n)
		refused(t, n, 1, 1, 0, 0)
	}
}

// rounded is a / b in numbers of any size.
func rounded(a, b int, up bool) int {
	q, m := new(big.Int).DivMod(big.NewInt(int64(a)), big.NewInt(int64(b)), new(big.Int))
	if up && m.Sign() > 0 {
		q.Add(q, big.NewInt(1))
	}
	return int(q.Int64())
}

func reckon(next, size, rate, quantum, now int) (int, int) {
	base := now - rounded(quantum*1024, rate, false)
	if next > base {
		base = next
	}
	end := base + rounded(size*1024, rate, true)
	if end > maxTick {
		end = maxTick
	}
	if base > now {
		return end, base
	}
	return end, now
}

func TestDepartModelP14_1(t *testing.T) {
	r := rand.New(rand.NewSource(1))
	for range 50000 {
		bits := 1 + r.Intn(40)
		next, now := r.Intn(1<<bits+1), r.Intn(1<<bits+1)
		size, rate, quantum := 1+r.Intn(65535)>>r.Intn(16), 1+r.Intn(1<<30)>>r.Intn(30), r.Intn(1<<20+1)>>r.Intn(20)
		wantNext, want := reckon(next, size, rate, quantum, now)
		depart(t, next, size, rate, quantum, now, wantNext, want)
	}
}

func TestNewP14_2(t *testing.T) {
	p := pacer.New()
	if p == nil || p.Len() != 0 {
		t.Fatal("New:", p)
	}
	released(t, p, 0)
	released(t, p, maxTick)
	other := pacer.New()
	push(t, other, 1, 1, 1, 0, 0, 0, api.OK) // two share nothing
}

func TestNotMade(t *testing.T) {
	for _, p := range []*pacer.Pacer{nil, {}} {
		push(t, p, 1, 100, 1024, 0, 0, 0, api.ErrMade)
		push(t, p, 1, 0, 0, -1, -1, 0, api.ErrMade)
		for _, now := range []int{-1, 0, maxTick + 1} {
			if l, e := p.Release(now); len(l) != 0 || e != api.ErrMade {
				t.Error("Release:", l, e)
			}
		}
		if p.Len() != 0 {
			t.Error("Len:", p.Len())
		}
	}
}

func TestPushP14_2(t *testing.T) {
	p := pacer.New()
	push(t, p, 1, 100, 1024, 0, 50, 50, api.OK)
	push(t, p, 2, 100, 1024, 0, 49, 0, api.ErrOrder)
	push(t, p, 2, 100, 1024, 0, 0, 0, api.ErrOrder)
	// Depart's error goes ahead.
	push(t, p, 2, 0, 1024, 0, 49, 0, api.ErrRange)
	push(t, p, 2, 65536, 1024, 0, 50, 0, api.ErrRange)
	push(t, p, 2, 100, 0, 0, 50, 0, api.ErrRange)
	push(t, p, 2, 100, 1<<30+1, 0, 50, 0, api.ErrRange)
	push(t, p, 2, 100, 1024, -1, 50, 0, api.ErrRange)
	push(t, p, 2, 100, 1024, 1<<20+1, 50, 0, api.ErrRange)
	push(t, p, 2, 100, 1024, 0, -1, 0, api.ErrRange)
	push(t, p, 2, 100, 1024, 0, maxTick+1, 0, api.ErrRange)
	// A refused call has changed nothing.
	push(t, p, 3, 100, 1024, 0, 50, 150, api.OK)
	push(t, p, 4, 100, 512, 0, 60, 250, api.OK)
	push(t, p, 5, 100, 1024, 0, 60, 450, api.OK)
	released(t, p, 49+11, 1)
	push(t, p, 6, 100, 1024, 0, 59, 0, api.ErrOrder) // a Release is an earlier one, too
	released(t, p, 149)
	push(t, p, 6, 100, 1024, 0, 149, 550, api.OK)
	disorder(t, p, 148)
	released(t, p, 450, 3, 4, 5)
	released(t, p, 550, 6)
	push(t, p, 7, 100, 1024, 0, 551, 651-1, api.OK)
}

func TestReleaseP14_2(t *testing.T) {
	p := pacer.New()
	for _, now := range []int{-1, maxTick + 1, math.MinInt, math.MaxInt} {
		disorder(t, p, now)
	}
	// Of one tick, in the order in which they came, whatever the ids.
	ids := []int{5, 3, math.MaxInt, -1, 3, 0, math.MinInt, 9}
	for _, id := range ids {
		push(t, p, id, 1, 1024, 100, 1000, 1000, api.OK)
		p2 := pacer.New()
		push(t, p2, id, 1, 1<<30, 0, 0, 0, api.OK)
		released(t, p2, 0, id)
	}
	disorder(t, p, 999)
	released(t, p, 1000, ids...)
	released(t, p, 1000)
	p = pacer.New()
	for i := range 10 {
		push(t, p, 10-i, 100, 1024, 0, 0, 100*i, api.OK)
	}
	released(t, p, 0, 10)
	released(t, p, 99)
	released(t, p, 100, 9)
	released(t, p, 399, 8, 7)
	disorder(t, p, 398)
	disorder(t, p, maxTick+1)
	released(t, p, maxTick, 6, 5, 4, 3, 2, 1)
	push(t, p, 1, 100, 1024, 0, maxTick, maxTick, api.OK)
	push(t, p, 2, 100, 1024, 0, maxTick, maxTick, api.OK)
	released(t, p, maxTick, 1, 2)
}

func TestFullP14_2(t *testing.T) {
	p := pacer.New()
	for i := range 4096 {
		push(t, p, i, 1, 1024, 0, 7, 7+i, api.OK)
	}
	push(t, p, 4096, 1, 1024, 0, 7, 0, api.ErrFull)
	push(t, p, 4096, 1, 1024, 0, 6, 0, api.ErrOrder) // ahead of ErrFull
	push(t, p, 4096, 1, 1024, 0, 9, 0, api.ErrFull)
	released(t, p, 8, 0, 1) // the refused one at 9 counts for nothing
	push(t, p, 4096, 1, 1024, 0, 8, 7+4096, api.OK)
	push(t, p, 4097, 1, 1024, 0, 8, 8+4096, api.OK)
	push(t, p, 4098, 1, 1024, 0, 8, 0, api.ErrFull)
	want := make([]int, 4096)
	for i := range want {
		want[i] = i + 2
	}
	released(t, p, maxTick, want...)
}

type waits struct{ id, depart int }

func TestModelP14_2(t *testing.T) {
	errors := map[api.Errno]int{}
	for seed := range 300 {
		r := rand.New(rand.NewSource(int64(seed)))
		p := pacer.New()
		var l []waits
		now, next := 0, 0
		for id := range 200 {
			at := now + r.Intn(200) - r.Intn(30)
			if r.Intn(4) > 0 {
				size, rate, quantum := 1+r.Intn(2000), 1+r.Intn(20000), r.Intn(3000)
				switch r.Intn(20) {
				case 0:
					size = 0
				case 1:
					at = maxTick + 1
				}
				wantNext, want := reckon(next, size, rate, quantum, at)
				d, e := p.Push(id, size, rate, quantum, at)
				we := api.OK
				if size == 0 || at < 0 || at > maxTick {
					we = api.ErrRange
				} else if at < now {
					we = api.ErrOrder
				}
				if e != we || e == api.OK && d != want || e != api.OK && d != 0 {
					t.Fatalf("seed %d: Push at %d = %d, %d; want %d, %d", seed, at, d, e, want, we)
				}
				errors[e]++
				if e == api.OK {
					if d < at || len(l) > 0 && d < l[len(l)-1].depart {
						t.Fatalf("P14.3: seed %d: departure %d at %d", seed, d, at)
					}
					l = append(l, waits{id, d})
					now, next = at, wantNext
				}
			} else {
				got, e := p.Release(at)
				if at < now {
					if e != api.ErrOrder || len(got) != 0 {
						t.Fatalf("seed %d: Release(%d) = %v, %d", seed, at, got, e)
					}
				} else {
					now = at
					var want []int
					for len(l) > 0 && l[0].depart <= at {
						want = append(want, l[0].id)
						l = l[1:]
					}
					if e != api.OK || !slices.Equal(got, want) {
						t.Fatalf("P14.3: seed %d: Release(%d) = %v, %d; want %v", seed, at, got, e, want)
					}
				}
			}
			if p.Len() != len(l) {
				t.Fatalf("seed %d: Len = %d; want %d", seed, p.Len(), len(l))
			}
		}
	}
	for _, e := range []api.Errno{api.OK, api.ErrRange, api.ErrOrder} {
		if errors[e] < 100 {
			t.Errorf("error %d came %d times", e, errors[e])
		}
	}
}

// In any ticks no more departs than the rate gives, a quantum and one packet.
func TestRateP14_4(t *testing.T) {
	for seed := range 200 {
		r := rand.New(rand.NewSource(int64(seed)))
		rate, quantum := 1+r.Intn(1<<r.Intn(24)), r.Intn(1<<r.Intn(14))
		p := pacer.New()
		var at, size []int
		now := 0
		for range 150 {
			now += r.Intn(1+r.Intn(60)) * r.Intn(2)
			n := 1 + r.Intn(1500)
			d, e := p.Push(0, n, rate, quantum, now)
			if e != api.OK {
				t.Fatal("Push:", e)
			}
			at, size = append(at, d), append(size, n)
		}
		for i := range at {
			sum := 0
			for j := i; j < len(at); j++ {
				sum += size[j] // up to the departure of j; the one packet more is the last
				if ticks := at[j] - at[i]; (sum-size[j]-quantum)*1024 > rate*ticks {
					t.Fatalf("seed %d: %d octets in %d ticks at %d, quantum %d", seed, sum, ticks, rate, quantum)
				}
			}
		}
	}
}

func TestMemoryP14_5(t *testing.T) {
	p := pacer.New()
	for i := range 8 {
		push(t, p, i, 100, 1024, 0, 0, 100*i, api.OK)
	}
	l, _ := p.Release(300)
	for i := range l[:cap(l)] {
		l[:cap(l)][i] = -1
	}
	released(t, p, 700, 4, 5, 6, 7)
}

func FuzzDepart(f *testing.F) {
	f.Add(0, 100, 1024, 100, 200)
	f.Fuzz(func(t *testing.T, next, size, rate, quantum, now int) {
		s, d, e := pacer.Depart(pacer.State{Next: next}, size, rate, quantum, now)
		if e != api.OK {
			if s.Next != 0 || d != 0 || e != api.ErrRange {
				t.Fatal(s, d, e)
			}
			return
		}
		if wantNext, want := reckon(next, size, rate, quantum, now); s.Next != wantNext || d != want {
			t.Fatal(s, d, wantNext, want)
		}
	})
}
