package fqcodel_test

import (
	"math"
	"math/rand"
	"reflect"
	"slices"
	"testing"

	"stopcock/api"
	"stopcock/codel"
	"stopcock/fqcodel"
)

const maxTick = 1 << 40

// calm drops nothing within the ticks that these tests have.
var calm = codel.Params{Target: 1 << 30, Interval: 1 << 30, MTU: 1 << 30}

func settings(flows, limit, quantum int) fqcodel.Config {
	return fqcodel.Config{Flows: flows, Limit: limit, Quantum: quantum, CoDel: calm}
}

func queue(t *testing.T, c fqcodel.Config) *fqcodel.Queue {
	t.Helper()
	q, e := fqcodel.New(c)
	if e != api.OK || q == nil {
		t.Fatalf("New(%+v) = %v, %d", c, q, e)
	}
	return q
}

func sized(id, size int) api.Packet {
	return api.Packet{ID: id, Size: size}
}

func put(t *testing.T, q *fqcodel.Queue, flow int, p api.Packet, dropped ...api.Packet) {
	t.Helper()
	if got, e := q.Enqueue(flow, p); e != api.OK || !slices.Equal(got, dropped) {
		t.Fatalf("Enqueue(%d, %+v) = %v, %d; want %v", flow, p, got, e, dropped)
	}
}

func refused(t *testing.T, q *fqcodel.Queue, flow int, p api.Packet, want api.Errno) {
	t.Helper()
	n := q.Len()
	l, deficit, list := q.Flow(flow)
	if got, e := q.Enqueue(flow, p); e != want || len(got) != 0 {
		t.Errorf("Enqueue(%d, %+v) = %v, %d; want %d", flow, p, got, e, want)
	}
	l2, deficit2, list2 := q.Flow(flow)
	if q.Len() != n || !slices.Equal(l, l2) || deficit != deficit2 || list != list2 {
		t.Errorf("a refused Enqueue changed something")
	}
}

// out takes a packet of a flow, without a drop or a mark.
func out(t *testing.T, q *fqcodel.Queue, now, flow int, p api.Packet) {
	t.Helper()
	r, e := q.Dequeue(now)
	if e != api.OK || !r.Has || r.Flow != flow || r.Out != p || r.Marked || len(r.Dropped) != 0 {
		t.Fatalf("Dequeue(%d) = %+v, %d; want %+v of %d", now, r, e, p, flow)
	}
}

func nothing(t *testing.T, q *fqcodel.Queue, now int, want api.Errno) {
	t.Helper()
	r, e := q.Dequeue(now)
	if e != want || r.Has || r.Flow != 0 || r.Out != (api.Packet{}) || r.Marked || len(r.Dropped) != 0 {
		t.Fatalf("Dequeue(%d) = %+v, %d; want nothing, %d", now, r, e, want)
	}
}

func flowIs(t *testing.T, q *fqcodel.Queue, flow, packets, deficit, list int) {
	t.Helper()
	l, d, x := q.Flow(flow)
	if len(l) != packets || d != deficit || x != list {
		t.Errorf("Flow(%d) = %v, %d, %d; want %d packets, %d, %d", flow, l, d, x, packets, deficit, list)
	}
}

func TestExample(t *testing.T) {
	q := queue(t, settings(2, 10, 1000))
	put(t, q, 0, sized(1, 1000))
	put(t, q, 0, sized(2, 1000))
	put(t, q, 1, sized(3, 1000))
	put(t, q, 1, sized(4, 1000))
	out(t, q, 0, 0, sized(1, 1000))
	out(t, q, 0, 1, sized(3, 1000))
	out(t, q, 0, 0, sized(2, 1000))
	out(t, q, 0, 1, sized(4, 1000))
	nothing(t, q, 0, api.OK)
}

func TestCheckP13_1(t *testing.T) {
	good := settings(4, 4, 4)
	change := func(f func(c *fqcodel.Config)) fqcodel.Config {
		c := good
		f(&c)
		return c
	}
	checked := func(c fqcodel.Config, want api.Errno) {
		t.Helper()
		if e := fqcodel.Check(c); e != want {
			t.Errorf("Check(%+v) = %d; want %d", c, e, want)
		}
		if q, e := fqcodel.New(c); e != want || (q == nil) != (want != api.OK) {
			t.Errorf("New(%+v) = %v, %d; want %d", c, q, e, want)
		}
	}
	for what, x := range map[string]struct {
		set func(c *fqcodel.Config, n int)
		max int
	}{
		"Flows":    {func(c *fqcodel.Config, n int) { c.Flows = n }, 1024},
		"Limit":    {func(c *fqcodel.Config, n int) { c.Limit = n }, 65536},
		"Quantum":  {func(c *fqcodel.Config, n int) { c.Quantum = n }, 65535},
		"Target":   {func(c *fqcodel.Config, n int) { c.CoDel.Target = n }, 1 << 30},
		"Interval": {func(c *fqcodel.Config, n int) { c.CoDel.Interval = n }, 1 << 30},
		"MTU":      {func(c *fqcodel.Config, n int) { c.CoDel.MTU = n }, 1 << 30},
	} {
		t.Log(what)
		for _, n := range []int{1, 2, x.max - 1, x.max} {
			checked(change(func(c *fqcodel.Config) { x.set(c, n) }), api.OK)
		}
		for _, n := range []int{0, -1, x.max + 1, math.MinInt, math.MaxInt} {
			checked(change(func(c *fqcodel.Config) { x.set(c, n) }), api.ErrConfig)
		}
	}
	q := queue(t, good)
	if q.Len() != 0 {
		t.Error("Len of a new queue:", q.Len())
	}
	for i := range 4 {
		flowIs(t, q, i, 0, 0, 0)
	}
	nothing(t, q, 0, api.OK)
}

func TestNotMade(t *testing.T) {
	for _, q := range []*fqcodel.Queue{nil, {}} {
		if l, e := q.Enqueue(-1, api.Packet{At: -1}); len(l) != 0 || e != api.ErrMade {
			t.Error("Enqueue:", l, e)
		}
		if r, e := q.Dequeue(-1); !reflect.DeepEqual(r, fqcodel.Result{}) || e != api.ErrMade {
			t.Error("Dequeue:", r, e)
		}
		if q.Len() != 0 {
			t.Error("Len:", q.Len())
		}
		for _, i := range []int{-1, 0, 1} {
			if l, d, x := q.Flow(i); len(l) != 0 || d != 0 || x != 0 {
				t.Error("Flow:", l, d, x)
			}
		}
	}
}

func TestEnqueueErrorsP13_2(t *testing.T) {
	q := queue(t, settings(3, 10, 100))
	put(t, q, 1, api.Packet{At: 50, Size: 10, ID: 1})
	for _, i := range []int{-1, 3, math.MinInt, math.MaxInt} {
		refused(t, q, i, api.Packet{At: 50, Size: 1}, api.ErrFlow)
		refused(t, q, i, api.Packet{At: -1, Size: 0}, api.ErrFlow)
		flowIs(t, q, i, 0, 0, 0)
	}
	for _, n := range []int{0, -1, 65536, math.MinInt, math.MaxInt} {
		refused(t, q, 1, api.Packet{At: 50, Size: n}, api.ErrRange)
		refused(t, q, 1, api.Packet{At: 49, Size: n}, api.ErrRange)
	}
	for _, n := range []int{49, 0, -1, math.MinInt, maxTick + 1, math.MaxInt} {
		refused(t, q, 1, api.Packet{At: n, Size: 1}, api.ErrOrder)
		nothing(t, q, n, api.ErrOrder)
	}
	// A refused call is no earlier one.
	put(t, q, 0, api.Packet{At: 50, Size: 1})
	put(t, q, 2, api.Packet{At: 51, Size: 65535})
	refused(t, q, 0, api.Packet{At: 50, Size: 1}, api.ErrOrder)
	nothing(t, q, 50, api.ErrOrder)
	out(t, q, 51, 1, api.Packet{At: 50, Size: 10, ID: 1})
	out(t, q, 60, 1-1, api.Packet{At: 50, Size: 1})
	refused(t, q, 0, api.Packet{At: 59, Size: 1}, api.ErrOrder)
	nothing(t, q, 59, api.ErrOrder)
	put(t, q, 0, api.Packet{At: 60, Size: 1})
	// A Dequeue that tells nothing is an earlier one, too.
	q = queue(t, settings(3, 10, 100))
	nothing(t, q, 7, api.OK)
	refused(t, q, 0, api.Packet{At: 6, Size: 1}, api.ErrOrder)
	put(t, q, 0, api.Packet{At: maxTick, Size: 1})
	out(t, q, maxTick, 0, api.Packet{At: maxTick, Size: 1})
	nothing(t, q, maxTick, api.OK)
	nothing(t, q, maxTick+1, api.ErrOrder)
	// Below 0 is below an earlier one, though there is none.
	q = queue(t, settings(3, 10, 100))
	refused(t, q, 0, api.Packet{At: -1, Size: 1}, api.ErrOrder)
	nothing(t, q, -1, api.ErrOrder)
	put(t, q, 0, api.Packet{At: 0, Size: 1})
}

func TestListsP13_2(t *testing.T) {
	q := queue(t, settings(4, 100, 1000))
	put(t, q, 2, sized(1, 300))
	flowIs(t, q, 2, 1, 1000, 1)
	put(t, q, 0, sized(2, 300))
	put(t, q, 2, sized(3, 300))
	flowIs(t, q, 2, 2, 1000, 1)
	flowIs(t, q, 0, 1, 1000, 1)
	flowIs(t, q, 1, 0, 0, 0)
	out(t, q, 0, 2, sized(1, 300))
	flowIs(t, q, 2, 1, 700, 1) // first among the new ones till its deficit is gone
	out(t, q, 0, 2, sized(3, 300))
	flowIs(t, q, 2, 0, 400, 1)
	out(t, q, 0, 0, sized(2, 300)) // 2 has none: an old one now
	flowIs(t, q, 2, 0, 400, 2)
	put(t, q, 2, sized(4, 300)) // on a list: no new deficit, nor list
	flowIs(t, q, 2, 1, 400, 2)
	put(t, q, 3, sized(5, 300)) // new ones go ahead of old ones
	out(t, q, 0, 3, sized(5, 300))
	out(t, q, 0, 2, sized(4, 300))
	flowIs(t, q, 0, 0, 700, 2)
	flowIs(t, q, 3, 0, 700, 2)
	flowIs(t, q, 2, 0, 100, 2)
	nothing(t, q, 0, api.OK)
	for i, deficit := range []int{700, 0, 100, 700} { // on no list, with what they had
		flowIs(t, q, i, 0, deficit, 0)
	}
	put(t, q, 2, sized(6, 300))
	flowIs(t, q, 2, 1, 1000, 1)
}

// One whose deficit is not above 0 gets Quantum, and is the last of the old ones.
func TestDeficitP13_3(t *testing.T) {
	q := queue(t, settings(3, 100, 100))
	put(t, q, 0, sized(1, 100))
	put(t, q, 0, sized(2, 250))
	put(t, q, 0, sized(3, 10))
	put(t, q, 1, sized(4, 99))
	put(t, q, 1, sized(5, 1))
	put(t, q, 1, sized(6, 1))
	out(t, q, 0, 0, sized(1, 100))
	flowIs(t, q, 0, 2, 0, 1)
	out(t, q, 0, 1, sized(4, 99))
	flowIs(t, q, 0, 2, 100, 2)
	flowIs(t, q, 1, 2, 1, 1)
	out(t, q, 0, 1, sized(5, 1)) // 1 was left of its deficit
	flowIs(t, q, 1, 1, 0, 1)
	out(t, q, 0, 0, sized(2, 250))
	flowIs(t, q, 0, 1, -150, 2)
	out(t, q, 0, 1, sized(6, 1)) // behind the first Quantum of 0
	flowIs(t, q, 0, 1, -50, 2)
	flowIs(t, q, 1, 0, 99, 2)
	out(t, q, 0, 0, sized(3, 10))
	flowIs(t, q, 0, 0, 40, 2)
	flowIs(t, q, 1, 0, 99, 0)
	nothing(t, q, 0, api.OK)
	flowIs(t, q, 0, 0, 40, 0)
}

// An empty flow whose deficit is not above 0 goes round till it is.
func TestEmptyGoesRoundP13_3(t *testing.T) {
	q := queue(t, settings(2, 100, 1))
	put(t, q, 0, sized(1, 65535))
	put(t, q, 1, sized(2, 65535))
	out(t, q, 0, 0, sized(1, 65535))
	flowIs(t, q, 0, 0, 1-65535, 1)
	out(t, q, 0, 1, sized(2, 65535))
	flowIs(t, q, 0, 0, 2-65535, 2)
	nothing(t, q, 0, api.OK)
	flowIs(t, q, 0, 0, 1, 0)
	flowIs(t, q, 1, 0, 1, 0)
}

func TestLimitP13_2(t *testing.T) {
	// The flow with the most octets loses its first packet.
	q := queue(t, settings(3, 4, 1000))
	put(t, q, 0, sized(1, 100))
	put(t, q, 1, sized(2, 30))
	put(t, q, 1, sized(3, 31))
	put(t, q, 1, sized(4, 32))
	put(t, q, 2, sized(5, 50), sized(1, 100))
	flowIs(t, q, 0, 0, 1000, 1)
	if q.Len() != 4 {
		t.Error("P13.6: Len:", q.Len())
	}
	put(t, q, 2, sized(6, 44), sized(5, 50)) // 94 is more than 93
	put(t, q, 0, sized(7, 93), sized(7, 93)) // 1 has 93, too
	put(t, q, 0, sized(8, 92), sized(2, 30))
}

// Of several with the most octets the lowest number, the packet that came counted in.
func TestFattestP13_2(t *testing.T) {
	q := queue(t, settings(4, 3, 1000))
	put(t, q, 3, sized(1, 50))
	put(t, q, 2, sized(2, 50))
	put(t, q, 1, sized(3, 49))
	put(t, q, 1, sized(4, 1), sized(3, 49))
	put(t, q, 1, sized(5, 49), sized(4, 1))
	put(t, q, 0, sized(6, 49), sized(2, 50))
	put(t, q, 0, sized(7, 2), sized(6, 49))
	put(t, q, 2, sized(8, 65535), sized(8, 65535)) // itself
	flowIs(t, q, 2, 0, 1000, 1)
	q = queue(t, settings(1, 1, 1))
	put(t, q, 0, sized(1, 1))
	put(t, q, 0, sized(2, 2), sized(1, 1))
	out(t, q, 0, 0, sized(2, 2))
}

func TestGreatestLimitsP13_6(t *testing.T) {
	q := queue(t, settings(1024, 65536, 65535))
	for i := range 65536 {
		put(t, q, i%1024, sized(i, 1+i%7))
	}
	if q.Len() != 65536 {
		t.Error("Len:", q.Len())
	}
	fat := 0
	sums := make([]int, 1024)
	for i := range 65536 {
		sums[i%1024] += 1 + i%7
	}
	sums[1023] += 9
	for i, n := range sums {
		if n > sums[fat] {
			fat = i
		}
	}
	put(t, q, 1023, sized(65536, 9), sized(fat, 1+fat%7))
	if q.Len() != 65536 {
		t.Error("P13.6: Len:", q.Len())
	}
	first := sized(0, 1)
	if fat == 0 {
		first = sized(1024, 1+1024%7)
	}
	out(t, q, 0, 0, first)
}

// What CoDel drops and marks is told, by the flow's own state.
func TestCoDelP13_3(t *testing.T) {
	c := settings(2, 100, 10000)
	c.CoDel = codel.Params{Target: 5, Interval: 100, MTU: 10}
	q := queue(t, c)
	for i := range 6 {
		put(t, q, 0, sized(i, 100))
		put(t, q, 1, api.Packet{ID: i + 10, Size: 100, ECT: true})
	}
	out(t, q, 10, 0, sized(0, 100))
	r, e := q.Dequeue(110)
	if !r.Has || r.Flow != 0 || r.Out != sized(2, 100) || r.Marked || !slices.Equal(r.Dropped, []api.Packet{sized(1, 100)}) || e != api.OK {
		t.Fatal("Dequeue:", r, e)
	}
	flowIs(t, q, 0, 3, 9800, 1) // what is dropped costs nothing
	if q.Len() != 9 {
		t.Error("Len:", q.Len())
	}
	// The other flow has not been above Target yet.
	for i := 3; i < 6; i++ {
		out(t, q, 110, 0, sized(i, 100))
	}
	out(t, q, 110, 1, api.Packet{ID: 10, Size: 100, ECT: true})
	out(t, q, 209, 1, api.Packet{ID: 11, Size: 100, ECT: true})
	r, e = q.Dequeue(210)
	if !r.Has || r.Flow != 1 || r.Out != (api.Packet{ID: 12, Size: 100, ECT: true}) || !r.Marked || len(r.Dropped) != 0 || e != api.OK {
		t.Fatal("Dequeue:", r, e)
	}
	if q.Len() != 3 {
		t.Error("Len:", q.Len())
	}
}

// What gives way by the limit and by CoDel is gone from the flow's octets.
func TestOctetsGoP13_2(t *testing.T) {
	c := settings(2, 5, 10000)
	c.CoDel = codel.Params{Target: 5, Interval: 100, MTU: 10}
	q := queue(t, c)
	for i := range 5 {
		put(t, q, 1, sized(i, 100))
	}
	put(t, q, 1, sized(5, 100), sized(0, 100))
	if r, _ := q.Dequeue(10); r.Out != sized(1, 100) {
		t.Fatal("Dequeue:", r)
	}
	if r, _ := q.Dequeue(110); r.Out != sized(3, 100) || len(r.Dropped) != 1 {
		t.Fatal("Dequeue:", r)
	}
	// 200 are left of 1.
	put(t, q, 0, api.Packet{At: 110, Size: 101, ID: 6})
	put(t, q, 0, api.Packet{At: 110, Size: 99, ID: 7})
	put(t, q, 0, api.Packet{At: 110, Size: 1, ID: 8})
	put(t, q, 1, api.Packet{At: 110, Size: 1, ID: 9}, api.Packet{At: 110, Size: 101, ID: 6})
	put(t, q, 0, api.Packet{At: 110, Size: 100, ID: 10}, sized(4, 100))
}

// model keeps each flow in a map, and both lists as one row.
type model struct {
	c     fqcodel.Config
	flows map[int]*modelFlow
	row   []int // the new ones, then the old ones
	fresh int   // how many of them are new
	now   int
}

type modelFlow struct {
	packets []api.Packet
	deficit int
	state   codel.State
}

func (m *model) flow(i int) *modelFlow {
	if m.flows[i] == nil {
		m.flows[i] = &modelFlow{}
	}
	return m.flows[i]
}

func (m *model) len() int {
	n := 0
	for _, f := range m.flows {
		n += len(f.packets)
	}
	return n
}

func (m *model) list(i int) int {
	switch at := slices.Index(m.row, i); {
	case at < 0:
		return 0
	case at < m.fresh:
		return 1
	}
	return 2
}

func (m *model) enqueue(i int, p api.Packet) ([]api.Packet, api.Errno) {
	switch {
	case i < 0 || i >= m.c.Flows:
		return nil, api.ErrFlow
	case p.Size < 1 || p.Size > 65535:
		return nil, api.ErrRange
	case p.At < m.now || p.At > maxTick:
		return nil, api.ErrOrder
	}
	m.now = p.At
	f := m.flow(i)
	f.packets = append(f.packets, p)
	if m.list(i) == 0 {
		f.deficit = m.c.Quantum
		m.row = slices.Insert(m.row, m.fresh, i)
		m.fresh++
	}
	if m.len() <= m.c.Limit {
		return nil, api.OK
	}
	fat, best := 0, -1
	for i := range m.c.Flows {
		sum := 0
		for _, x := range m.flow(i).packets {
			sum += x.Size
		}
		if sum > best {
			fat, best = i, sum
		}
	}
	f = m.flow(fat)
	gone := f.packets[0]
	f.packets = slices.Delete(f.packets, 0, 1)
	return []api.Packet{gone}, api.OK
}

func (m *model) dequeue(now int) (fqcodel.Result, api.Errno) {
	if now < m.now || now > maxTick {
		return fqcodel.Result{}, api.ErrOrder
	}
	m.now = now
	var r fqcodel.Result
	for len(m.row) > 0 {
		i := m.row[0]
		isNew := m.fresh > 0
		f := m.flow(i)
		poor := f.deficit <= 0
		if poor {
			f.deficit += m.c.Quantum
		} else {
			s, x, _ := codel.Dequeue(m.c.CoDel, f.state, slices.Clone(f.packets), now)
			f.state = s
			f.packets = slices.Clone(f.packets[len(f.packets)-x.Left:])
			r.Dropped = append(r.Dropped, x.Dropped...)
			if x.Has {
				f.deficit -= x.Out.Size
				r.Has, r.Flow, r.Out, r.Marked = true, i, x.Out, x.Marked
				return r, api.OK
			}
		}
		m.row = slices.Delete(m.row, 0, 1)
		if poor || isNew {
			m.row = append(m.row, i)
		}
		if isNew {
			m.fresh--
		}
	}
	return r, api.OK
}

func held(t *testing.T, q *fqcodel.Queue, m *model) {
	t.Helper()
	if q.Len() != m.len() {
		t.Fatalf("Len = %d; want %d", q.Len(), m.len())
	}
	if q.Len() > m.c.Limit {
		t.Fatalf("P13.6: %d are kept", q.Len())
	}
	for i := range m.c.Flows {
		l, d, x := q.Flow(i)
		if f := m.flow(i); !slices.Equal(l, f.packets) || d != f.deficit || x != m.list(i) {
			t.Fatalf("Flow(%d) = %v, %d, %d; want %v, %d, %d", i, l, d, x, f.packets, f.deficit, m.list(i))
		}
	}
}

func sameResult(a, b fqcodel.Result) bool {
	return a.Has == b.Has && a.Flow == b.Flow && a.Out == b.Out && a.Marked == b.Marked && slices.Equal(a.Dropped, b.Dropped)
}

func TestModelP13_3(t *testing.T) {
	counts := map[string]int{}
	for seed := range 400 {
		r := rand.New(rand.NewSource(int64(seed)))
		c := settings(1+r.Intn(5), 1+r.Intn(40), 1+r.Intn(2000))
		c.CoDel = codel.Params{Target: 1 + r.Intn(20), Interval: 1 + r.Intn(100), MTU: 1 + r.Intn(1500)}
		q, m := queue(t, c), &model{c: c, flows: map[int]*modelFlow{}}
		entered := map[int][]int{} // IDs by flow, in order
		bias := 1 + r.Intn(5)
		for id := range 400 {
			now := m.now + r.Intn(12) - r.Intn(2)
			if r.Intn(6) < bias {
				i := r.Intn(c.Flows+2) - 1
				p := api.Packet{At: now, Size: 1 + r.Intn(1500), ECT: r.Intn(2) == 0, ID: id}
				if r.Intn(30) == 0 {
					p.Size = r.Intn(3)*32768 - 1
				}
				got, e := q.Enqueue(i, p)
				want, we := m.enqueue(i, p)
				if e != we || !slices.Equal(got, want) {
					t.Fatalf("seed %d: Enqueue(%d, %+v) = %v, %d; want %v, %d", seed, i, p, got, e, want, we)
				}
				if e == api.OK {
					entered[i] = append(entered[i], id)
				}
				for _, x := range got {
					counts["limit"]++
					remove(t, entered, -1, x.ID)
				}
			} else {
				got, e := q.Dequeue(now)
				want, we := m.dequeue(now)
				if e != we || !sameResult(got, want) {
					t.Fatalf("seed %d: Dequeue(%d) = %+v, %d; want %+v, %d", seed, now, got, e, want, we)
				}
				for _, x := range got.Dropped {
					counts["codel"]++
					remove(t, entered, -1, x.ID)
				}
				if got.Has {
					counts["out"]++
					remove(t, entered, got.Flow, got.Out.ID)
				}
				if got.Marked {
					counts["marked"]++
				}
			}
			held(t, q, m)
		}
	}
	for _, what := range []string{"limit", "codel", "out", "marked"} {
		if counts[what] < 500 {
			t.Errorf("%s came %d times", what, counts[what])
		}
	}
}

// remove takes an ID off the front of its flow's: packets leave in order, each once (P13.5).
func remove(t *testing.T, entered map[int][]int, flow, id int) {
	t.Helper()
	for i, l := range entered {
		if len(l) > 0 && l[0] == id && (flow < 0 || flow == i) {
			entered[i] = l[1:]
			return
		}
	}
	t.Fatalf("P13.5: %d left out of its turn, or twice", id)
}

func TestFairP13_7(t *testing.T) {
	for seed := range 200 {
		r := rand.New(rand.NewSource(int64(seed)))
		quantum, largest := 1+r.Intn(3000), 1+r.Intn(3000)
		q := queue(t, settings(3, 10000, quantum))
		sizes := []int{1 + r.Intn(largest), 1 + r.Intn(largest), largest}
		id := 0
		fill := func(i int) {
			for l, _, _ := q.Flow(i); len(l) < 3; l, _, _ = q.Flow(i) {
				size := sizes[i]
				if r.Intn(2) == 0 {
					size = 1 + r.Intn(largest)
				}
				put(t, q, i, sized(id, size))
				id++
			}
		}
		given := [3]int{}
		low, high := [3]int{}, [3]int{} // of given[i] - given[i+1]
		begun := false
		for range 600 {
			for i := range 3 {
				fill(i)
			}
			x, _ := q.Dequeue(0)
			if !x.Has {
				t.Fatal("nothing came")
			}
			if !begun {
				begun = true
				for i := range 3 {
					_, _, list := q.Flow(i)
					begun = begun && list == 2
				}
				continue
			}
			given[x.Flow] += x.Out.Size
			for i := range 3 {
				d := given[i] - given[(i+1)%3]
				low[i], high[i] = min(low[i], d), max(high[i], d)
				if high[i]-low[i] > 3*quantum+2*largest {
					t.Fatalf("seed %d: two flows differ by %d; quantum %d, largest %d", seed, high[i]-low[i], quantum, largest)
				}
			}
		}
		if !begun {
			t.Fatal("they never were all old")
		}
	}
}

func TestMemoryP13_8(t *testing.T) {
	c := settings(2, 3, 1000)
	c.CoDel = codel.Params{Target: 5, Interval: 100, MTU: 10}
	q, m := queue(t, c), &model{c: c, flows: map[int]*modelFlow{}}
	spoil := func(l []api.Packet) {
		for i := range l[:cap(l)] {
			l[:cap(l)][i] = api.Packet{At: 7, Size: 7, ID: 7}
		}
	}
	for id := range 200 {
		p := api.Packet{At: 10 * id, Size: 100, ID: id}
		l, _ := q.Enqueue(id%3%2, p)
		m.enqueue(id%3%2, p)
		spoil(l)
		l, _, _ = q.Flow(0)
		spoil(l)
		if id%5 > 2 {
			r, _ := q.Dequeue(10*id + 9)
			m.dequeue(10*id + 9)
			spoil(r.Dropped)
		}
		held(t, q, m)
	}
	// Two queues share nothing.
	other := queue(t, c)
	other.Enqueue(0, sized(1, 1))
	held(t, q, m)
}

func FuzzQueue(f *testing.F) {
	f.Add([]byte{10, 3, 1, 2, 3, 129, 2, 3, 7, 2, 3})
	f.Fuzz(func(t *testing.T, script []byte) {
		if len(script) < 2 {
			return
		}
		c := settings(3, 1+int(script[0])%8, 1+int(script[1]))
		c.CoDel = codel.Params{Target: 5, Interval: 30, MTU: 40}
		q, m := queue(t, c), &model{c: c, flows: map[int]*modelFlow{}}
		for id := 0; len(script) >= 3; script = script[3:] {
			now := m.now + int(script[1]%16)
			if script[0] < 128 {
				p := api.Packet{At: now, Size: int(script[2]), ECT: script[0]&64 != 0, ID: id}
				got, e := q.Enqueue(int(script[0]%4), p)
				want, we := m.enqueue(int(script[0]%4), p)
				if e != we || !slices.Equal(got, want) {
					t.Fatalf("Enqueue(%+v) = %v, %d; want %v, %d", p, got, e, want, we)
				}
			} else {
				got, e := q.Dequeue(now)
				want, we := m.dequeue(now)
				if e != we || !sameResult(got, want) {
					t.Fatalf("Dequeue(%d) = %+v, %d; want %+v, %d", now, got, e, want, we)
				}
			}
			held(t, q, m)
			id++
		}
	})
}
