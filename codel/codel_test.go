package codel_test

import (
	"math"
	"math/big"
	"math/rand"
	"reflect"
	"slices"
	"testing"

	"stopcock/api"
	"stopcock/codel"
)

const (
	maxTick = 1 << 40
	most    = 1 << 30
)

// plain may be, and its numbers are unlike each other.
var plain = codel.Params{Target: 5, Interval: 100, MTU: 1500}

func law(t *testing.T, at, interval, count, want int, fault api.Errno) {
	t.Helper()
	if got, e := codel.Law(at, interval, count); got != want || e != fault {
		t.Errorf("Law(%d, %d, %d) = %d, %d; want %d, %d", at, interval, count, got, e, want, fault)
	}
}

// same holds what Dequeue tells against what it is to tell; no and an empty list are one.
func same(t *testing.T, what string, s, ws codel.State, r, wr codel.Result, e, we api.Errno) {
	t.Helper()
	if len(r.Dropped) == 0 && len(wr.Dropped) == 0 {
		r.Dropped, wr.Dropped = nil, nil
	}
	if s != ws || !reflect.DeepEqual(r, wr) || e != we {
		t.Fatalf("%s: Dequeue = %+v, %+v, %d; want %+v, %+v, %d", what, s, r, e, ws, wr, we)
	}
}

func told(t *testing.T, p codel.Params, s codel.State, q []api.Packet, now int, ws codel.State, wr codel.Result) {
	t.Helper()
	gs, gr, e := codel.Dequeue(p, s, q, now)
	same(t, "", gs, ws, gr, wr, e, api.OK)
}

func refused(t *testing.T, p codel.Params, s codel.State, q []api.Packet, now int, want api.Errno) {
	t.Helper()
	gs, gr, e := codel.Dequeue(p, s, q, now)
	same(t, "", gs, codel.State{}, gr, codel.Result{}, e, want)
}

// line gives n packets that came at a tick, with IDs from 0 on.
func line(n, at, size int) []api.Packet {
	var q []api.Packet
	for i := range n {
		q = append(q, api.Packet{At: at, Size: size, ID: i})
	}
	return q
}

func TestExample(t *testing.T) {
	law(t, 100, 100, 1, 200, api.OK)
	law(t, 100, 100, 4, 150, api.OK)
	if n := codel.Root(8); n != 2 {
		t.Error("Root(8):", n)
	}
}

func TestCheckP12_1(t *testing.T) {
	for _, n := range []int{1, 2, most - 1, most} {
		for _, p := range []codel.Params{{n, 1, 1}, {1, n, 1}, {1, 1, n}, {n, n, n}} {
			if e := codel.Check(p); e != api.OK {
				t.Errorf("Check(%+v) = %d", p, e)
			}
		}
	}
	for _, n := range []int{0, -1, most + 1, math.MinInt, math.MaxInt} {
		for _, p := range []codel.Params{{n, 1, 1}, {1, n, 1}, {1, 1, n}, {n, n, n}} {
			if e := codel.Check(p); e != api.ErrConfig {
				t.Errorf("Check(%+v) = %d; want ErrConfig", p, e)
			}
			refused(t, p, codel.State{}, line(1, 0, 1), 0, api.ErrConfig)
			refused(t, p, codel.State{Count: -1}, line(1, -1, 0), -1, api.ErrConfig) // ahead of ErrRange
		}
	}
}

func TestRootP12_1(t *testing.T) {
	for n := range uint64(70000) {
		if r := codel.Root(n); r*r > n || (r+1)*(r+1) <= n {
			t.Fatalf("Root(%d) = %d", n, r)
		}
	}
	for _, r := range []uint64{1 << 16, 1<<16 + 1, 46341, 1<<31 - 1, 1 << 31, 3037000499, 3037000500, 1<<32 - 2, 1<<32 - 1} {
		for n, want := range map[uint64]uint64{r*r - 1: r - 1, r * r: r, r*r + 1: r, r*r + 2*r: r} {
			if got := codel.Root(n); got != want {
				t.Errorf("Root(%d) = %d; want %d", n, got, want)
			}
		}
	}
	r := rand.New(rand.NewSource(1))
	for range 20000 {
		n := r.Uint64() >> r.Intn(64)
		want := new(big.Int).Sqrt(new(big.Int).SetUint64(n)).Uint64()
		if got := codel.Root(n); got != want {
			t.Fatalf("Root(%d) = %d; want %d", n, got, want)
		}
	}
}

// wantLaw is Law in numbers of any size.
func wantLaw(at, interval, count int) int {
	root := new(big.Int).Sqrt(new(big.Int).Lsh(big.NewInt(int64(count)), 32))
	x := new(big.Int).Lsh(big.NewInt(int64(interval)), 16)
	return at + int(x.Div(x, root).Int64())
}

func TestLawP12_1(t *testing.T) {
	for _, x := range [][4]int{
		{0, 100, 1, 100}, {0, 100, 2, 70}, {0, 100, 3, 57}, {7, 100, 5, 51}, {0, 100, 9, 33}, {0, 100, 100, 10},
		{0, 100, 10000, 1}, {0, 100, 10001, 0}, {0, 1, 1, 1}, {0, 1, 2, 0},
		{0, most, 1, most}, {0, most, most, 32768}, {maxTick, 1, 1, maxTick + 1}, {maxTick, most, 1, maxTick + most},
		{0, 1, most, 0}, {5, 32768, most, 6}, {5, 32767, most, 5},
	} {
		law(t, x[0], x[1], x[2], x[3], api.OK)
	}
	for _, n := range []int{-1, math.MinInt, maxTick + 1, math.MaxInt} {
		law(t, n, 1, 1, 0, api.ErrRange)
	}
	for _, n := range []int{0, -1, most + 1, math.MinInt, math.MaxInt} {
		law(t, 1, n, 1, 0, api.ErrRange)
		law(t, 1, 1, n, 0, api.ErrRange)
	}
	r := rand.New(rand.NewSource(2))
	for range 20000 {
		at, interval, count := r.Intn(maxTick+1), 1+r.Intn(most)>>r.Intn(30), 1+r.Intn(most)>>r.Intn(30)
		law(t, at, interval, count, wantLaw(at, interval, count), api.OK)
	}
}

func TestRangeP12_2(t *testing.T) {
	bad := []int{-1, math.MinInt, 2*maxTick + 1, math.MaxInt}
	good := []int{0, 1, maxTick + 1, 2 * maxTick}
	for _, n := range bad {
		refused(t, plain, codel.State{}, nil, n, api.ErrRange)
		refused(t, plain, codel.State{AboveAt: n}, nil, 0, api.ErrRange)
		refused(t, plain, codel.State{Next: n}, nil, 0, api.ErrRange)
		refused(t, plain, codel.State{}, []api.Packet{{At: n, Size: 1}}, 0, api.ErrRange)
		refused(t, plain, codel.State{}, []api.Packet{{Size: 1}, {Size: 1}, {At: n, Size: 1}}, 0, api.ErrRange)
	}
	for _, n := range good {
		told(t, plain, codel.State{}, nil, n, codel.State{}, codel.Result{})
		told(t, plain, codel.State{AboveAt: n}, nil, 0, codel.State{AboveAt: n}, codel.Result{})
		told(t, plain, codel.State{Next: n}, nil, 0, codel.State{Next: n}, codel.Result{})
		x := api.Packet{At: n, Size: 1}
		told(t, plain, codel.State{}, []api.Packet{x}, 0, codel.State{}, codel.Result{Has: true, Out: x})
	}
	for _, n := range []int{0, -1, 65536, math.MinInt, math.MaxInt} {
		refused(t, plain, codel.State{}, []api.Packet{{Size: n}}, 0, api.ErrRange)
		refused(t, plain, codel.State{}, []api.Packet{{Size: 1}, {Size: n}}, 0, api.ErrRange)
	}
	for _, n := range []int{1, 65535} {
		told(t, plain, codel.State{}, []api.Packet{{Size: n}}, 0, codel.State{}, codel.Result{Has: true, Out: api.Packet{Size: n}})
	}
	for _, n := range []int{-1, most + 1, math.MinInt, math.MaxInt} {
		refused(t, plain, codel.State{Count: n}, nil, 0, api.ErrRange)
		refused(t, plain, codel.State{Last: n}, nil, 0, api.ErrRange)
	}
	for _, n := range []int{0, most} {
		told(t, plain, codel.State{Count: n, Last: n}, nil, 0, codel.State{Count: n, Last: n}, codel.Result{})
	}
}

// An ID may be any number.
func TestAnyIDP12_2(t *testing.T) {
	for _, id := range []int{-1, math.MinInt, math.MaxInt} {
		x := api.Packet{Size: 1, ID: id, ECT: true}
		told(t, plain, codel.State{}, []api.Packet{x}, 9, codel.State{}, codel.Result{Has: true, Out: x})
	}
}

// Nothing to take, or nothing that is ripe, ends what was begun.
func TestTakeP12_2(t *testing.T) {
	all := codel.State{Above: true, AboveAt: 3, Dropping: true, Next: 4, Count: 5, Last: 2}
	over := codel.State{AboveAt: 3, Next: 4, Count: 5, Last: 2}
	told(t, plain, all, nil, 1000, over, codel.Result{})
	told(t, plain, all, []api.Packet{}, 1000, over, codel.Result{})
	q := line(3, 100, 1000) // 2000 octets stay behind the first
	told(t, plain, all, q, 104, over, codel.Result{Has: true, Out: q[0], Left: 2})
	told(t, plain, all, q, 99, over, codel.Result{Has: true, Out: q[0], Left: 2})
	told(t, plain, all, q, 0, over, codel.Result{Has: true, Out: q[0], Left: 2})
	told(t, plain, all, q[1:], 1000, over, codel.Result{Has: true, Out: q[1], Left: 1})
	// From Target on, it is above; from Interval behind that on, ripe.
	s := codel.State{}
	told(t, plain, s, q, 104, s, codel.Result{Has: true, Out: q[0], Left: 2})
	s = codel.State{Above: true, AboveAt: 205}
	told(t, plain, codel.State{AboveAt: 7}, q, 105, s, codel.Result{Has: true, Out: q[0], Left: 2})
	told(t, plain, s, q, 204, s, codel.Result{Has: true, Out: q[0], Left: 2})
	begun := codel.State{AboveAt: 205, Dropping: true, Next: 305, Count: 1, Last: 1}
	told(t, plain, s, q, 205, begun, codel.Result{Has: true, Out: q[1], Left: 1, Dropped: q[:1]})
	// At most MTU octets behind it: not above.
	for _, x := range []struct {
		size  int
		above bool
	}{{1500, false}, {1501, true}} {
		l := []api.Packet{{Size: 1}, {Size: x.size}}
		s := codel.State{}
		if x.above {
			s = codel.State{Above: true, AboveAt: 1100}
		}
		told(t, plain, codel.State{}, l, 1000, s, codel.Result{Has: true, Out: l[0], Left: 1})
	}
	// What was begun before goes on as it was, where it is above but not ripe.
	s = codel.State{Above: true, AboveAt: 500, Dropping: true, Next: 300, Count: 5, Last: 2}
	w := s
	w.Dropping = false
	told(t, plain, s, q, 400, w, codel.Result{Has: true, Out: q[0], Left: 2})
}

// dropping has all that a packet that came at 0 needs to be dropped at 1000.
func dropping(next, count, last int) codel.State {
	return codel.State{Above: true, AboveAt: 1000, Dropping: true, Next: next, Count: count, Last: last}
}

func TestDroppingP12_2(t *testing.T) {
	q := line(10, 0, 1000)
	// Ahead of Next: nothing.
	told(t, plain, dropping(1001, 3, 1), q, 1000, dropping(1001, 3, 1), codel.Result{Has: true, Out: q[0], Left: 9})
	// At Next: one; 1000 and 100 / 2 is above now.
	told(t, plain, dropping(1000, 3, 1), q, 1000, dropping(1050, 4, 1), codel.Result{Has: true, Out: q[1], Dropped: q[:1], Left: 8})
	// 920 and 100 / 2, and 100 / root 5 (44): two; 1014 is above now.
	told(t, plain, dropping(920, 3, 1), q, 1000, dropping(1014, 5, 1), codel.Result{Has: true, Out: q[2], Dropped: q[:2], Left: 7})
	// Up to the last one that has more than MTU octets behind it.
	s := dropping(0, 3, 1)
	s.Above, s.Dropping, s.Count = false, false, 11
	s.Next = 0
	for c := 4; c <= 10; c++ { // the eighth one isn't ripe any more, Next stays as it was
		s.Next = wantLaw(s.Next, 100, c)
	}
	told(t, plain, dropping(0, 3, 1), q, 1000, s, codel.Result{Has: true, Out: q[8], Dropped: q[:8], Left: 1})
	// A short one among old ones ends it.
	l := line(10, 0, 1000)
	l[2].At = 996
	told(t, plain, dropping(0, 3, 1), l, 1000, codel.State{AboveAt: 1000, Next: 50, Count: 5, Last: 1}, codel.Result{Has: true, Out: l[2], Dropped: l[:2], Left: 7})
	// Count stays at 2^30.
	told(t, plain, dropping(1000, most, 1), q, 1000, codel.State{AboveAt: 1000, Above: false, Next: 1000, Count: most, Last: 1}, codel.Result{Has: true, Out: q[8], Dropped: q[:8], Left: 1})
	told(t, plain, dropping(1000, most-1, 1), q[:4], 1000, codel.State{AboveAt: 1000, Above: false, Next: 1000, Count: most, Last: 1}, codel.Result{Has: true, Out: q[2], Dropped: q[:2], Left: 1})
}

func TestMarkingP12_2(t *testing.T) {
	q := line(10, 0, 1000)
	for i := range q {
		q[i].ECT = true
	}
	// One mark is all, however far behind Next is.
	told(t, plain, dropping(0, 3, 1), q, 1000, dropping(50, 4, 1), codel.Result{Has: true, Out: q[0], Marked: true, Left: 9})
	told(t, plain, dropping(1001, 3, 1), q, 1000, dropping(1001, 3, 1), codel.Result{Has: true, Out: q[0], Left: 9})
	// Behind two that are dropped.
	q[0].ECT, q[1].ECT = false, false
	told(t, plain, dropping(0, 3, 1), q, 1000, dropping(50+44+40, 6, 1), codel.Result{Has: true, Out: q[2], Marked: true, Dropped: q[:2], Left: 7})
	// Count stays at 2^30.
	told(t, plain, dropping(0, most, 1), q[2:], 1000, dropping(0, most, 1), codel.Result{Has: true, Out: q[2], Marked: true, Left: 7})
	// The first one.
	s := codel.State{Above: true, AboveAt: 1000}
	told(t, plain, s, q[2:], 1000, codel.State{Above: true, AboveAt: 1000, Dropping: true, Next: 1100, Count: 1, Last: 1}, codel.Result{Has: true, Out: q[2], Marked: true, Left: 7})
	// One with ECT that comes behind a drop to begin with goes out without a mark.
	told(t, plain, s, q[1:], 1000, codel.State{Above: true, AboveAt: 1000, Dropping: true, Next: 1100, Count: 1, Last: 1}, codel.Result{Has: true, Out: q[2], Dropped: q[1:2], Left: 7})
}

// Soon after the last time dropping begins as often as then.
func TestBeginP12_2(t *testing.T) {
	q := line(10, 0, 1000)
	for _, x := range []struct{ next, count, last, want int }{
		{1000, 0, 0, 1}, {1000, 1, 0, 1}, {1000, 2, 0, 2}, {1000, 2, 1, 1}, {1000, 3, 1, 2}, {1000, 9, 2, 7},
		{1000, 2, 9, 1}, {1000, 0, most, 1}, {1000, most, 0, most},
		{5000, 9, 2, 7}, {2 * maxTick, 9, 2, 7},
	} {
		s := codel.State{Above: true, AboveAt: 1000, Next: x.next, Count: x.count, Last: x.last}
		w := codel.State{Above: true, AboveAt: 1000, Dropping: true, Next: wantLaw(1000, 100, x.want), Count: x.want, Last: x.want}
		told(t, plain, s, q, 1000, w, codel.Result{Has: true, Out: q[1], Dropped: q[:1], Left: 8})
	}
	// Less than 16 intervals behind Next.
	for now, want := range map[int]int{2599: 7, 2600: 1, 2601: 1} {
		s := codel.State{Above: true, AboveAt: 1000, Next: 1000, Count: 9, Last: 2}
		w := codel.State{Above: true, AboveAt: 1000, Dropping: true, Next: wantLaw(now, 100, want), Count: want, Last: want}
		told(t, plain, s, q, now, w, codel.Result{Has: true, Out: q[1], Dropped: q[:1], Left: 8})
	}
	// What is taken behind the dropped one may come to be not above, and there may be none.
	s := codel.State{Above: true, AboveAt: 1000}
	l := line(4, 0, 1000)
	l[1].At = 1000
	told(t, plain, s, l, 1000, codel.State{AboveAt: 1000, Dropping: true, Next: 1100, Count: 1, Last: 1}, codel.Result{Has: true, Out: l[1], Dropped: l[:1], Left: 2})
}

// Beyond MaxTick ticks are reckoned likewise.
func TestBeyondMaxTickP12_2(t *testing.T) {
	q := line(10, maxTick, 1000)
	now := 2 * maxTick
	s := codel.State{Above: true, AboveAt: now - 1, Dropping: true, Next: now - 60, Count: 3, Last: 1}
	w := s
	w.Next, w.Count = now-60+50+44, 5
	told(t, plain, s, q, now, w, codel.Result{Has: true, Out: q[2], Dropped: q[:2], Left: 7})
	told(t, plain, codel.State{}, q, now, codel.State{Above: true, AboveAt: now + 100}, codel.Result{Has: true, Out: q[0], Left: 9})
	s = codel.State{Above: true, AboveAt: now}
	told(t, plain, s, q, now, codel.State{Above: true, AboveAt: now, Dropping: true, Next: now + 100, Count: 1, Last: 1}, codel.Result{Has: true, Out: q[1], Dropped: q[:1], Left: 8})
}

// reckon is Dequeue by the words, over a list that it eats.
func reckon(p codel.Params, s codel.State, q []api.Packet, now int) (codel.State, codel.Result) {
	var r codel.Result
	take := func() bool {
		r.Has, r.Out = len(q) > 0, api.Packet{}
		if !r.Has {
			s.Above = false
			return false
		}
		r.Out = q[0]
		q = q[1:]
		left := 0
		for _, x := range q {
			left += x.Size
		}
		if r.Out.At > now-p.Target || left <= p.MTU {
			s.Above = false
			return false
		}
		if !s.Above {
			s.Above = true
			s.AboveAt = now + p.Interval
			return false
		}
		return now >= s.AboveAt
	}
	at := func(from int) int { return wantLaw(from, p.Interval, s.Count) }
	first := s.Dropping
	ripe := take()
	if s.Dropping && !ripe {
		s.Dropping = false
	}
	for s.Dropping && now >= s.Next {
		if s.Count < most {
			s.Count++
		}
		if r.Out.ECT {
			r.Marked = true
			s.Next = at(s.Next)
			break
		}
		r.Dropped = append(r.Dropped, r.Out)
		if take() {
			s.Next = at(s.Next)
		} else {
			s.Dropping = false
		}
	}
	if !first && ripe {
		if r.Out.ECT {
			r.Marked = true
		} else {
			r.Dropped = append(r.Dropped, r.Out)
			take()
		}
		s.Dropping = true
		if s.Count-s.Last > 1 && now-s.Next < 16*p.Interval {
			s.Count -= s.Last
		} else {
			s.Count = 1
		}
		s.Next = at(now)
		s.Last = s.Count
	}
	r.Left = len(q)
	return s, r
}

// follows holds what follows against one answer.
func follows(t *testing.T, p codel.Params, q []api.Packet, now int, r codel.Result) {
	t.Helper()
	l := slices.Clone(r.Dropped)
	if r.Has {
		l = append(l, r.Out)
	}
	l = append(l, q[len(q)-r.Left:]...)
	if !slices.Equal(l, q) {
		t.Fatalf("P12.3: dropped, out and left are %v; the queue was %v", l, q)
	}
	behind := 0
	for _, x := range q {
		behind += x.Size
	}
	for i, x := range q[:len(q)-r.Left] {
		behind -= x.Size
		struck := i < len(r.Dropped) || r.Marked
		if struck && (now-x.At < p.Target || behind <= p.MTU) {
			t.Fatalf("P12.4: %v was dropped or marked at %d, with %d octets behind it", x, now, behind)
		}
		if i < len(r.Dropped) && x.ECT {
			t.Fatalf("P12.5: %v was dropped", x)
		}
	}
	if r.Marked && !r.Out.ECT {
		t.Fatalf("P12.5: %v was marked", r.Out)
	}
}

func TestModelP12_2(t *testing.T) {
	drops, marks, times := 0, 0, 0
	for seed := range 300 {
		r := rand.New(rand.NewSource(int64(seed)))
		p := codel.Params{Target: 1 + r.Intn(20), Interval: 1 + r.Intn(100), MTU: 1 + r.Intn(3000)}
		var s codel.State
		var q []api.Packet
		now, ects := 0, r.Intn(3)
		for id := range 400 {
			now += r.Intn(1 + r.Intn(30))
			for range r.Intn(4) {
				if seed%2 == 0 || len(q) < 50 {
					q = append(q, api.Packet{At: max(0, now+3-r.Intn(8)), Size: 1 + r.Intn(1500), ECT: r.Intn(2) < ects, ID: id})
				}
			}
			ws, wr := reckon(p, s, slices.Clone(q), now)
			gs, gr, e := codel.Dequeue(p, s, q, now)
			same(t, "", gs, ws, gr, wr, e, api.OK)
			follows(t, p, q, now, gr)
			s, q = gs, q[len(q)-gr.Left:]
			drops += len(gr.Dropped)
			if gr.Marked {
				marks++
			}
			if len(gr.Dropped) > 1 {
				times++
			}
		}
	}
	if drops < 1000 || marks < 1000 || times < 100 {
		t.Error("too few were dropped, marked, or dropped at one time:", drops, marks, times)
	}
}

// States that no Dequeue made are as good.
func TestAnyStateP12_2(t *testing.T) {
	for seed := range 20000 {
		r := rand.New(rand.NewSource(int64(seed)))
		p := codel.Params{Target: 1 + r.Intn(20), Interval: 1 + r.Intn(100), MTU: 1 + r.Intn(200)}
		now := 500 + r.Intn(500)
		s := codel.State{
			Above: r.Intn(4) > 0, AboveAt: now + 50 - r.Intn(400), Dropping: r.Intn(2) == 0,
			Next: now + 50 - r.Intn(500), Count: r.Intn(10), Last: r.Intn(10),
		}
		var q []api.Packet
		for id := range r.Intn(12) {
			q = append(q, api.Packet{At: now + 3 - r.Intn(60), Size: 1 + r.Intn(200), ECT: r.Intn(4) == 0, ID: id})
		}
		ws, wr := reckon(p, s, slices.Clone(q), now)
		gs, gr, e := codel.Dequeue(p, s, q, now)
		same(t, "", gs, ws, gr, wr, e, api.OK)
		follows(t, p, q, now, gr)
	}
}

// The same call tells the same.
func TestMemoryP12_6(t *testing.T) {
	q := line(10, 0, 1000)
	kept := slices.Clone(q)
	s, r, _ := codel.Dequeue(plain, dropping(920, 3, 1), q, 1000)
	if !slices.Equal(q, kept) {
		t.Error("the queue was changed")
	}
	for i := range r.Dropped[:cap(r.Dropped)] {
		r.Dropped[:cap(r.Dropped)][i] = api.Packet{}
	}
	if !slices.Equal(q, kept) {
		t.Error("an answer shares memory with the queue")
	}
	s2, r2, _ := codel.Dequeue(plain, dropping(920, 3, 1), q, 1000)
	clear(q)
	if s2 != s || !slices.Equal(r2.Dropped, kept[:2]) {
		t.Error("an answer is another one, or shares memory with the queue:", s2, r2)
	}
}

func FuzzDequeue(f *testing.F) {
	f.Add(5, 100, 1500, true, 7, true, 3, 4, 2, []byte{1, 2, 3, 4}, 1000)
	f.Fuzz(func(t *testing.T, target, interval, mtu int, above bool, aboveAt int, drop bool, next, count, last int, packets []byte, now int) {
		p := codel.Params{Target: target, Interval: interval, MTU: mtu}
		s := codel.State{Above: above, AboveAt: aboveAt, Dropping: drop, Next: next, Count: count, Last: last}
		var q []api.Packet
		for i, b := range packets {
			q = append(q, api.Packet{At: int(b), Size: 1 + int(b)%100, ECT: b%7 == 0, ID: i})
		}
		gs, gr, e := codel.Dequeue(p, s, q, now)
		if e != api.OK {
			same(t, "", gs, codel.State{}, gr, codel.Result{}, e, e)
			return
		}
		ws, wr := reckon(p, s, slices.Clone(q), now)
		same(t, "", gs, ws, gr, wr, e, api.OK)
	})
}
