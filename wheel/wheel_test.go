package wheel_test

import (
	"math"
	"math/rand"
	"slices"
	"testing"

	"stopcock/api"
	"stopcock/wheel"
)

// model is the same thing without a wheel: timers in the order in which they were set.
type model struct {
	now    int
	timers []wheel.Timer
}

func (m *model) index(id int) int {
	return slices.IndexFunc(m.timers, func(t wheel.Timer) bool { return t.ID == id })
}

func (m *model) set(id, at int) api.Errno {
	if at < 0 || at > 1<<40 {
		return api.ErrRange
	}
	i := m.index(id)
	if i < 0 && len(m.timers) == 4096 {
		return api.ErrFull
	}
	if i >= 0 {
		m.timers = slices.Delete(m.timers, i, i+1)
	}
	m.timers = append(m.timers, wheel.Timer{ID: id, At: at})
	return api.OK
}

func (m *model) stop(id int) api.Errno {
	i := m.index(id)
	if i < 0 {
		return api.ErrTimer
	}
	m.timers = slices.Delete(m.timers, i, i+1)
	return api.OK
}

// turns gives all timers in the order in which they are told.
func (m *model) turns() []wheel.Timer {
	out := slices.Clone(m.timers)
	slices.SortStableFunc(out, func(a, b wheel.Timer) int {
		if a.At < b.At {
			return -1
		}
		if a.At > b.At {
			return 1
		}
		return 0
	})
	return out
}

func (m *model) advance(now int) ([]wheel.Timer, api.Errno) {
	if now < m.now || now > 1<<40 {
		return nil, api.ErrOrder
	}
	m.now = now
	var out []wheel.Timer
	for _, t := range m.turns() {
		if t.At <= now {
			out = append(out, t)
		}
	}
	m.timers = slices.DeleteFunc(m.timers, func(t wheel.Timer) bool { return t.At <= now })
	return out, api.OK
}

// held asks a wheel all that it can be asked without changing it.
func held(t *testing.T, w *wheel.Wheel, m *model) {
	t.Helper()
	if w.Now() != m.now || w.Len() != len(m.timers) {
		t.Fatalf("Now, Len = %d, %d; want %d, %d", w.Now(), w.Len(), m.now, len(m.timers))
	}
	first, ok := w.Next()
	if len(m.timers) == 0 {
		if first != (wheel.Timer{}) || ok {
			t.Fatalf("Next = %v, %v; want none", first, ok)
		}
		return
	}
	if want := m.turns()[0]; first != want || !ok {
		t.Fatalf("Next = %v, %v; want %v", first, ok, want)
	}
}

// allHeld asks for each timer too.
func allHeld(t *testing.T, w *wheel.Wheel, m *model) {
	t.Helper()
	held(t, w, m)
	for _, x := range m.timers {
		if at, ok := w.At(x.ID); at != x.At || !ok {
			t.Fatalf("At(%d) = %d, %v; want %d", x.ID, at, ok, x.At)
		}
	}
}

// pair is a wheel and its model, to which the same is done.
type pair struct {
	w *wheel.Wheel
	m *model
}

func newPair() pair { return pair{wheel.New(), &model{}} }

func (p pair) set(t *testing.T, id, at int) {
	t.Helper()
	if e, want := p.w.Set(id, at), p.m.set(id, at); e != want {
		t.Fatalf("Set(%d, %d) = %d; want %d", id, at, e, want)
	}
}

func (p pair) stop(t *testing.T, id int) {
	t.Helper()
	if e, want := p.w.Stop(id), p.m.stop(id); e != want {
		t.Fatalf("Stop(%d) = %d; want %d", id, e, want)
	}
}

func (p pair) advance(t *testing.T, now int) {
	t.Helper()
	got, e := p.w.Advance(now)
	want, we := p.m.advance(now)
	if e != we || !slices.Equal(got, want) {
		t.Fatalf("Advance(%d) = %v, %d; want %v, %d", now, got, e, want, we)
	}
}

func TestExample(t *testing.T) {
	w := wheel.New()
	for _, x := range []wheel.Timer{{ID: 1, At: 5}, {ID: 2, At: 5}, {ID: 3, At: 3}} {
		if e := w.Set(x.ID, x.At); e != api.OK {
			t.Fatal("Set:", x, e)
		}
	}
	if got, e := w.Advance(4); e != api.OK || !slices.Equal(got, []wheel.Timer{{ID: 3, At: 3}}) {
		t.Error("Advance(4):", got, e)
	}
	w.Set(1, 5)
	if got, e := w.Advance(5); e != api.OK || !slices.Equal(got, []wheel.Timer{{ID: 2, At: 5}, {ID: 1, At: 5}}) {
		t.Error("Advance(5):", got, e)
	}
}

func TestNewP6_1(t *testing.T) {
	w := wheel.New()
	allHeld(t, w, &model{})
	if got, e := w.Advance(0); len(got) != 0 || e != api.OK {
		t.Error("Advance of none:", got, e)
	}
	other := wheel.New()
	other.Set(1, 1)
	allHeld(t, w, &model{})
}

func TestSetRangeP6_1(t *testing.T) {
	for _, at := range []int{0, 1, 1<<40 - 1, 1 << 40} {
		p := newPair()
		p.set(t, 7, at)
		allHeld(t, p.w, p.m)
		p.advance(t, at)
		allHeld(t, p.w, p.m)
	}
	for _, at := range []int{-1, -64, math.MinInt, 1<<40 + 1, 1 << 42, math.MaxInt} {
		p := newPair()
		p.set(t, 7, 3)
		if e := p.w.Set(7, at); e != api.ErrRange {
			t.Errorf("Set(7, %d) = %d; want ErrRange", at, e)
		}
		if e := p.w.Set(8, at); e != api.ErrRange {
			t.Errorf("Set(8, %d) = %d; want ErrRange", at, e)
		}
		allHeld(t, p.w, p.m)
	}
}

func TestSetAnyID(t *testing.T) {
	p := newPair()
	for i, id := range []int{0, -1, math.MinInt, math.MaxInt, 1, 4096, 0, -1} {
		p.set(t, id, 10-i)
		allHeld(t, p.w, p.m)
	}
	p.advance(t, 10)
}

func TestSetFullP6_1(t *testing.T) {
	p := newPair()
	for i := range 4096 {
		p.set(t, i, (i*37)%5000)
	}
	if e := p.w.Set(4096, 1); e != api.ErrFull {
		t.Error("one more than MaxTimers:", e)
	}
	if e := p.w.Set(4096, -1); e != api.ErrRange {
		t.Error("ErrRange goes ahead of ErrFull:", e)
	}
	allHeld(t, p.w, p.m)
	p.set(t, 17, 9999)
	p.stop(t, 4000)
	p.set(t, 4096, 1)
	if e := p.w.Set(4000, 1); e != api.ErrFull {
		t.Error("full again:", e)
	}
	allHeld(t, p.w, p.m)
	p.advance(t, 0)
	p.set(t, 4000, 1)
	p.advance(t, 2500)
	p.set(t, 5000, 2500)
	p.advance(t, 1<<40)
}

func TestSetAgainP6_1(t *testing.T) {
	p := newPair()
	p.set(t, 1, 100)
	p.set(t, 2, 100)
	p.set(t, 1, 100) // as if stopped ahead: behind 2 now
	held(t, p.w, p.m)
	p.set(t, 2, 90)
	p.set(t, 2, 5000)
	allHeld(t, p.w, p.m)
	p.advance(t, 100)
	allHeld(t, p.w, p.m)
	p.advance(t, 4999)
	p.advance(t, 5000)
	held(t, p.w, p.m)
}

func TestStopP6_1(t *testing.T) {
	p := newPair()
	p.stop(t, 1)
	for id := range 6 {
		p.set(t, id, 70)
	}
	p.stop(t, 0)
	p.stop(t, 0)
	p.stop(t, 3)
	p.stop(t, 5)
	p.stop(t, 6)
	allHeld(t, p.w, p.m)
	if at, ok := p.w.At(3); at != 0 || ok {
		t.Error("At of one that was stopped:", at, ok)
	}
	p.advance(t, 70)
	p.stop(t, 1) // told, so gone
	held(t, p.w, p.m)
}

func TestAdvanceOrderP6_2(t *testing.T) {
	p := newPair()
	p.set(t, 1, 50)
	for _, now := range []int{-1, math.MinInt, 1<<40 + 1, math.MaxInt} {
		if got, e := p.w.Advance(now); e != api.ErrOrder || len(got) != 0 {
			t.Errorf("Advance(%d) = %v, %d; want ErrOrder", now, got, e)
		}
	}
	allHeld(t, p.w, p.m)
	p.advance(t, 40)
	if got, e := p.w.Advance(39); e != api.ErrOrder || len(got) != 0 {
		t.Errorf("Advance(39) = %v, %d; want ErrOrder", got, e)
	}
	p.advance(t, 40)
	p.advance(t, 1<<40)
	p.advance(t, 1<<40)
	if _, e := p.w.Advance(1<<40 + 1); e != api.ErrOrder {
		t.Error("above MaxTick:", e)
	}
	if _, e := p.w.Advance(1<<40 - 1); e != api.ErrOrder {
		t.Error("behind MaxTick:", e)
	}
	p.set(t, 2, 1<<40)
	p.set(t, 3, 0)
	held(t, p.w, p.m)
	p.advance(t, 1<<40)
}

// A tick that has come when a timer is set: it is told by the next Advance, in its place.
func TestLateP6_2(t *testing.T) {
	p := newPair()
	p.set(t, 9, 1000)
	p.set(t, 8, 990)
	p.advance(t, 980)
	p.set(t, 1, 980)
	held(t, p.w, p.m)
	p.set(t, 2, 3)
	held(t, p.w, p.m)
	p.set(t, 3, 980)
	p.set(t, 4, 3)
	p.set(t, 5, 0)
	p.set(t, 6, 981)
	p.set(t, 1, 980)
	p.stop(t, 4)
	allHeld(t, p.w, p.m)
	p.advance(t, 980)
	allHeld(t, p.w, p.m)
	p.set(t, 1, 7)
	p.advance(t, 1000)
	held(t, p.w, p.m)
}

// Each tick alone: those next to where wheels turn, each asked from several ticks and stepped over.
func TestEachTurnP6_2(t *testing.T) {
	var ticks []int
	for n := 0; n <= 40; n++ {
		ticks = append(ticks, 1<<n-1, 1<<n, min(1<<n+1, 1<<40))
	}
	slices.Sort(ticks)
	ticks = slices.Compact(ticks)
	for _, from := range ticks {
		for _, at := range ticks {
			p := newPair()
			p.advance(t, from)
			p.set(t, 1, at)
			held(t, p.w, p.m)
			if at > from {
				p.advance(t, at-1)
				allHeld(t, p.w, p.m)
				p.advance(t, at)
			}
			p.advance(t, max(at, from))
			p.advance(t, 1<<40)
		}
	}
}

func TestNextP6_2(t *testing.T) {
	p := newPair()
	p.advance(t, 100)
	for i, at := range []int{1 << 40, 1 << 30, 5000, 4999, 200, 130, 127, 128, 101, 101, 100, 99, 99, 0} {
		p.set(t, i, at)
		held(t, p.w, p.m)
	}
	for i := 13; i >= 0; i-- {
		p.stop(t, i)
		held(t, p.w, p.m)
	}
}

func TestAtP6_2(t *testing.T) {
	w := wheel.New()
	if at, ok := w.At(0); at != 0 || ok {
		t.Error("At of none:", at, ok)
	}
	w.Set(0, 0)
	if at, ok := w.At(0); at != 0 || !ok {
		t.Error("At of one at 0:", at, ok)
	}
	w.Set(0, 77)
	if at, ok := w.At(0); at != 77 || !ok {
		t.Error("At of one that was set again:", at, ok)
	}
	w.Advance(77)
	if at, ok := w.At(0); at != 0 || ok {
		t.Error("At of one that was told:", at, ok)
	}
}

func TestNotMadeP6_2(t *testing.T) {
	for _, w := range []*wheel.Wheel{nil, {}} {
		if e := w.Set(1, -1); e != api.ErrMade {
			t.Error("Set:", e)
		}
		if e := w.Set(1, 1); e != api.ErrMade {
			t.Error("Set:", e)
		}
		if e := w.Stop(1); e != api.ErrMade {
			t.Error("Stop:", e)
		}
		for _, now := range []int{-1, 0, 5, math.MaxInt} {
			if got, e := w.Advance(now); len(got) != 0 || e != api.ErrMade {
				t.Error("Advance:", got, e)
			}
		}
		if x, ok := w.Next(); x != (wheel.Timer{}) || ok {
			t.Error("Next:", x, ok)
		}
		if at, ok := w.At(1); at != 0 || ok {
			t.Error("At:", at, ok)
		}
		if w.Now() != 0 || w.Len() != 0 {
			t.Error("Now, Len:", w.Now(), w.Len())
		}
	}
}

// anyTick gives a tick near now, or far from it, or of any size.
func anyTick(r *rand.Rand, now int) int {
	switch r.Intn(8) {
	case 0:
		return r.Intn(1<<40 + 1)
	case 1:
		return now - r.Intn(100)
	case 2:
		return now&^(1<<r.Intn(30)-1) + r.Intn(3) - 1
	}
	return now + r.Intn(1<<r.Intn(20)+1)
}

func TestModelP6_3(t *testing.T) {
	for seed := range 300 {
		r := rand.New(rand.NewSource(int64(seed)))
		p := newPair()
		ids := 1 + r.Intn(200)
		for range 600 {
			switch r.Intn(6) {
			case 0:
				p.stop(t, r.Intn(ids))
			case 1:
				now := p.m.now + r.Intn(1<<r.Intn(14))
				if r.Intn(40) == 0 {
					now = anyTick(r, p.m.now)
				}
				p.advance(t, now)
			default:
				p.set(t, r.Intn(ids), anyTick(r, p.m.now))
			}
			held(t, p.w, p.m)
		}
		allHeld(t, p.w, p.m)
		p.advance(t, 1<<40)
		held(t, p.w, p.m)
	}
}

// Each timer that is set is told once, by the first Advance that comes to its tick.
func TestToldOnceP6_3(t *testing.T) {
	r := rand.New(rand.NewSource(3))
	w := wheel.New()
	ticks := map[int]int{}
	for id := range 3000 {
		ticks[id] = r.Intn(1 << r.Intn(24))
		w.Set(id, ticks[id])
	}
	told := map[int]int{}
	last := -1
	for now := 0; now < 1<<24; now += 1 + r.Intn(1<<r.Intn(18)) {
		got, e := w.Advance(now)
		if e != api.OK {
			t.Fatal("Advance:", e)
		}
		for _, x := range got {
			told[x.ID]++
			if x.At != ticks[x.ID] || x.At <= last || x.At > now {
				t.Fatalf("told %v by an Advance from %d to %d; it was set at %d", x, last, now, ticks[x.ID])
			}
		}
		last = now
	}
	got, _ := w.Advance(1 << 24)
	for _, x := range got {
		told[x.ID]++
	}
	for id := range 3000 {
		if told[id] != 1 {
			t.Errorf("%d was told %d times", id, told[id])
		}
	}
}

func TestTogetherP6_4(t *testing.T) {
	r := rand.New(rand.NewSource(4))
	for range 200 {
		one, two := wheel.New(), wheel.New()
		start := r.Intn(1 << r.Intn(40))
		one.Advance(start)
		two.Advance(start)
		for range r.Intn(300) {
			id, at := r.Intn(100), min(max(anyTick(r, start), 0), 1<<40)
			one.Set(id, at)
			two.Set(id, at)
		}
		end := start
		var parts []wheel.Timer
		for range 1 + r.Intn(5) {
			end = min(end+r.Intn(1<<r.Intn(38)), 1<<40)
			got, e := one.Advance(end)
			if e != api.OK {
				t.Fatal("Advance:", e)
			}
			parts = append(parts, got...)
		}
		if whole, e := two.Advance(end); e != api.OK || !slices.Equal(parts, whole) {
			t.Fatalf("in parts %v, at once %v, %d", parts, whole, e)
		}
	}
}

// What a refused call would have changed is asked for behind it.
func TestRefusedP6_5(t *testing.T) {
	p := newPair()
	for i := range 4096 {
		p.set(t, i, 100+i/2)
	}
	p.advance(t, 99)
	refused := func(what string, e, want api.Errno) {
		t.Helper()
		if e != want {
			t.Errorf("%s = %d; want %d", what, e, want)
		}
		held(t, p.w, p.m)
	}
	refused("Set below 0", p.w.Set(0, -1), api.ErrRange)
	refused("Set above MaxTick", p.w.Set(1, 1<<40+1), api.ErrRange)
	refused("Set of one more", p.w.Set(5000, 100), api.ErrFull)
	refused("Set of one more, late", p.w.Set(5000, 1), api.ErrFull)
	refused("Stop of none", p.w.Stop(5000), api.ErrTimer)
	for _, now := range []int{98, 0, -1, 1<<40 + 1} {
		_, e := p.w.Advance(now)
		refused("Advance", e, api.ErrOrder)
	}
	allHeld(t, p.w, p.m)
	p.advance(t, 1000)
	p.advance(t, 1<<40)
}

func TestMemoryP6_6(t *testing.T) {
	p := newPair()
	for id := range 100 {
		p.set(t, id, id/3)
	}
	got, _ := p.w.Advance(10)
	p.m.advance(10)
	kept := slices.Clone(got)
	for i := range got[:cap(got)] {
		got[:cap(got)][i] = wheel.Timer{ID: -7, At: 1 << 39}
	}
	held(t, p.w, p.m)
	more, _ := p.w.Advance(20)
	want, _ := p.m.advance(20)
	if !slices.Equal(more, want) {
		t.Errorf("Advance = %v; want %v", more, want)
	}
	for _, x := range got {
		if x != (wheel.Timer{ID: -7, At: 1 << 39}) {
			t.Error("an answer was changed later on:", x)
		}
	}
	if len(kept) == 0 {
		t.Error("nothing was told")
	}
	allHeld(t, p.w, p.m)
	p.advance(t, 1000)
}

// Two wheels to which the same is done answer the same, and neither touches the other.
func TestNothingElseP3(t *testing.T) {
	r := rand.New(rand.NewSource(5))
	a, b := wheel.New(), wheel.New()
	for range 3000 {
		id, at, now := r.Intn(50), r.Intn(20000), r.Intn(20000)
		switch r.Intn(3) {
		case 0:
			x, e := a.Advance(now)
			y, f := b.Advance(now)
			if e != f || !slices.Equal(x, y) {
				t.Fatalf("%v, %d and %v, %d", x, e, y, f)
			}
		case 1:
			if e, f := a.Stop(id), b.Stop(id); e != f {
				t.Fatal(e, f)
			}
		default:
			if e, f := a.Set(id, at), b.Set(id, at); e != f {
				t.Fatal(e, f)
			}
		}
	}
}

func FuzzWheel(f *testing.F) {
	f.Add([]byte{0, 1, 5, 0, 2, 5, 0, 3, 3, 2, 0, 4})
	f.Add([]byte{0, 1, 70, 30, 0, 200, 1, 1, 0, 2, 9, 255})
	f.Fuzz(func(t *testing.T, b []byte) {
		p := newPair()
		for len(b) >= 3 {
			id, size := int(b[0]>>2), int(b[2])<<(b[1]%40)
			switch b[0] % 4 {
			case 0:
				p.set(t, id, size)
			case 1:
				p.set(t, id, p.m.now+int(b[1])-int(b[2]))
			case 2:
				p.advance(t, p.m.now+size)
			case 3:
				p.stop(t, id)
			}
			held(t, p.w, p.m)
			b = b[3:]
		}
		allHeld(t, p.w, p.m)
		p.advance(t, 1<<40)
	})
}
