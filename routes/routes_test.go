package routes_test

import (
	"bytes"
	"fmt"
	"math"
	"math/bits"
	"math/rand"
	"slices"
	"testing"

	"stopcock/api"
	"stopcock/routes"
)

const maxTick = 1 << 40

func ip(a, b, c, d uint32) uint32 {
	return a<<24 | b<<16 | c<<8 | d
}

func added(t *testing.T, x *routes.Table, net uint32, bits int, gateway uint32, want api.Errno) {
	t.Helper()
	if e := x.Add(routes.Route{Net: net, Bits: bits, Gateway: gateway}); e != want {
		t.Errorf("Add(%x/%d) = %d; want %d", net, bits, e, want)
	}
}

func dropped(t *testing.T, x *routes.Table, net uint32, bits int, want api.Errno) {
	t.Helper()
	if e := x.Drop(net, bits); e != want {
		t.Errorf("Drop(%x/%d) = %d; want %d", net, bits, e, want)
	}
}

func next(t *testing.T, x *routes.Table, ip, want uint32, fault api.Errno) {
	t.Helper()
	if got, e := x.Next(ip); got != want || e != fault {
		t.Errorf("Next(%x) = %x, %d; want %x, %d", ip, got, e, want, fault)
	}
}

func counted(t *testing.T, x *routes.Table, want int) {
	t.Helper()
	if x.Len() != want {
		t.Errorf("Len = %d; want %d", x.Len(), want)
	}
}

func TestExample(t *testing.T) {
	x := routes.NewTable()
	added(t, x, ip(10, 0, 0, 0), 8, 0, api.OK)
	added(t, x, 0, 0, ip(10, 0, 0, 9), api.OK)
	next(t, x, ip(10, 1, 2, 3), ip(10, 1, 2, 3), api.OK)
	next(t, x, ip(8, 8, 8, 8), ip(10, 0, 0, 9), api.OK)
}

func TestAddP10_1(t *testing.T) {
	x := routes.NewTable()
	counted(t, x, 0)
	next(t, x, 5, 0, api.ErrRoute)
	for _, bits := range []int{-1, 33, 64, math.MinInt, math.MaxInt} {
		added(t, x, 0, bits, 1, api.ErrRange)
		added(t, x, 1, bits, 1, api.ErrRange)
	}
	for bits := range 32 {
		for at := range 32 - bits { // each bit behind the first ones
			added(t, x, 1<<at, bits, 1, api.ErrArg)
		}
		added(t, x, math.MaxUint32, bits, 1, api.ErrArg)
	}
	counted(t, x, 0)
	for bits := range 33 {
		net := ^(uint32(math.MaxUint32) >> bits)
		added(t, x, net, bits, uint32(bits+100), api.OK)
		added(t, x, net, bits, uint32(bits+100), api.ErrTwice)
		added(t, x, net, bits, 0, api.ErrTwice)
		counted(t, x, bits+1)
	}
	for bits := range 33 {
		next(t, x, ^(uint32(1) << 31 >> bits), uint32(bits+100), api.OK) // so many bits of 1 ahead of a 0
	}
	// One net at several widths is several.
	x = routes.NewTable()
	for bits := range 33 {
		added(t, x, 0, bits, uint32(bits+100), api.OK)
	}
	counted(t, x, 33)
	next(t, x, 0, 132, api.OK)
	next(t, x, 1, 131, api.OK)
	next(t, x, 1<<31, 100, api.OK)
}

func TestFullP10_1(t *testing.T) {
	x := routes.NewTable()
	for i := range 256 {
		added(t, x, uint32(i)<<16, 16, uint32(i+1), api.OK)
	}
	added(t, x, 256<<16, 16, 1, api.ErrFull)
	added(t, x, 0, 0, 1, api.ErrFull)
	added(t, x, 5<<16, 16, 1, api.ErrTwice) // ahead of ErrFull
	added(t, x, 1, 16, 1, api.ErrArg)
	added(t, x, 1, 33, 1, api.ErrRange)
	counted(t, x, 256)
	next(t, x, 256<<16, 0, api.ErrRoute)
	next(t, x, 255<<16+9, 256, api.OK)
	dropped(t, x, 7<<16, 16, api.OK)
	next(t, x, 7<<16, 0, api.ErrRoute)
	added(t, x, 256<<16, 16, 1, api.OK)
	added(t, x, 7<<16, 16, 1, api.ErrFull)
	counted(t, x, 256)
}

func TestDropP10_1(t *testing.T) {
	x := routes.NewTable()
	dropped(t, x, 0, 0, api.ErrNone)
	added(t, x, ip(10, 0, 0, 0), 8, 1, api.OK)
	added(t, x, ip(10, 0, 0, 0), 9, 2, api.OK)
	for _, bits := range []int{-1, 7, 10, 32, 33, 40, 64, math.MinInt, math.MaxInt} {
		dropped(t, x, ip(10, 0, 0, 0), bits, api.ErrNone)
	}
	dropped(t, x, ip(10, 0, 0, 1), 8, api.ErrNone)
	dropped(t, x, ip(11, 0, 0, 0), 8, api.ErrNone)
	counted(t, x, 2)
	dropped(t, x, ip(10, 0, 0, 0), 9, api.OK)
	next(t, x, ip(10, 1, 0, 0), 1, api.OK)
	dropped(t, x, ip(10, 0, 0, 0), 9, api.ErrNone)
	dropped(t, x, ip(10, 0, 0, 0), 8, api.OK)
	counted(t, x, 0)
	next(t, x, ip(10, 1, 0, 0), 0, api.ErrRoute)
	added(t, x, ip(10, 0, 0, 0), 8, 3, api.OK)
	next(t, x, ip(10, 1, 0, 0), 3, api.OK)
}

func TestTableNotMadeP10_1(t *testing.T) {
	for _, x := range []*routes.Table{nil, {}} {
		added(t, x, 0, 0, 1, api.ErrMade)
		added(t, x, 1, -1, 1, api.ErrMade)
		dropped(t, x, 0, 0, api.ErrMade)
		next(t, x, 5, 0, api.ErrMade)
		counted(t, x, 0)
	}
}

// The gateway itself is not looked up.
func TestGatewayP10_1(t *testing.T) {
	x := routes.NewTable()
	added(t, x, ip(10, 0, 0, 0), 8, ip(11, 0, 0, 1), api.OK)
	added(t, x, ip(11, 0, 0, 0), 8, ip(12, 0, 0, 1), api.OK)
	next(t, x, ip(10, 0, 0, 1), ip(11, 0, 0, 1), api.OK)
	added(t, x, 0, 0, math.MaxUint32, api.OK)
	next(t, x, 0, math.MaxUint32, api.OK)
	added(t, x, math.MaxUint32, 32, 0, api.OK)
	next(t, x, math.MaxUint32, math.MaxUint32, api.OK)
	added(t, x, 0, 32, 0, api.OK)
	next(t, x, 0, 0, api.OK)
}

// The longest one counts: held against a look at all routes.
func TestLongestP10_3(t *testing.T) {
	for seed := range 200 {
		r := rand.New(rand.NewSource(int64(seed)))
		x := routes.NewTable()
		var l []routes.Route
		base := r.Uint32()
		near := func() uint32 { return base ^ 1<<r.Intn(32)&-uint32(r.Intn(2)) ^ r.Uint32()>>r.Intn(33) }
		for range 150 {
			n := r.Intn(33)
			y := routes.Route{Net: near() &^ (math.MaxUint32 >> n), Bits: n, Gateway: r.Uint32()}
			if r.Intn(4) == 0 {
				y.Gateway = 0
			}
			same := func(z routes.Route) bool { return z.Net == y.Net && z.Bits == y.Bits }
			if r.Intn(3) == 0 && len(l) > 0 {
				y = l[r.Intn(len(l))]
				dropped(t, x, y.Net, y.Bits, api.OK)
				l = slices.DeleteFunc(l, same)
			} else if slices.ContainsFunc(l, same) {
				added(t, x, y.Net, y.Bits, y.Gateway, api.ErrTwice)
			} else {
				added(t, x, y.Net, y.Bits, y.Gateway, api.OK)
				l = append(l, y)
			}
			to := near()
			best, want, fault := -1, uint32(0), api.ErrRoute
			for _, z := range l {
				if bits.LeadingZeros32(z.Net^to) >= z.Bits && z.Bits > best {
					best, want, fault = z.Bits, z.Gateway, api.OK
				}
			}
			if fault == api.OK && want == 0 {
				want = to
			}
			next(t, x, to, want, fault)
			counted(t, x, len(l))
		}
	}
}

func cache(t testing.TB, age, again int) *routes.Cache {
	t.Helper()
	c, e := routes.NewCache(age, again)
	if e != api.OK || c == nil {
		t.Fatal("NewCache:", e)
	}
	return c
}

type answer struct {
	mac        uint64
	known, ask bool
	fault      api.Errno
}

func asked(t *testing.T, c *routes.Cache, ip uint32, frame string, now int, want answer) {
	t.Helper()
	var got answer
	got.mac, got.known, got.ask, got.fault = c.Ask(ip, []byte(frame), now)
	if got != want {
		t.Errorf("Ask(%x, %.20q, %d) = %v; want %v", ip, frame, now, got, want)
	}
}

func waits(t *testing.T, c *routes.Cache, ip uint32, frame string, now int, ask bool) {
	t.Helper()
	asked(t, c, ip, frame, now, answer{ask: ask})
}

func learnt(t *testing.T, c *routes.Cache, ip uint32, mac uint64, now int, fault api.Errno, frames ...string) {
	t.Helper()
	l, e := c.Learn(ip, mac, now)
	var got []string
	for _, b := range l {
		got = append(got, string(b))
	}
	if !slices.Equal(got, frames) || e != fault {
		t.Errorf("Learn(%x, %x, %d) = %.20q, %d; want %.20q, %d", ip, mac, now, got, e, frames, fault)
	}
}

func known(t *testing.T, c *routes.Cache, ip uint32, now int, mac uint64, want bool) {
	t.Helper()
	if got, ok := c.Known(ip, now); got != mac || ok != want {
		t.Errorf("Known(%x, %d) = %x, %v; want %x, %v", ip, now, got, ok, mac, want)
	}
}

func TestNewCacheP10_2(t *testing.T) {
	for _, x := range []struct {
		age, again int
		want       api.Errno
	}{
		{1, 1, api.OK}, {1 << 30, 1, api.OK}, {1, 1 << 30, api.OK}, {1 << 30, 1 << 30, api.OK},
		{0, 1, api.ErrConfig}, {1, 0, api.ErrConfig}, {-1, 1, api.ErrConfig}, {1, -1, api.ErrConfig}, {0, 0, api.ErrConfig},
		{1<<30 + 1, 1, api.ErrConfig}, {1, 1<<30 + 1, api.ErrConfig},
		{math.MinInt, 1, api.ErrConfig}, {1, math.MinInt, api.ErrConfig}, {math.MaxInt, 1, api.ErrConfig}, {1, math.MaxInt, api.ErrConfig},
	} {
		c, e := routes.NewCache(x.age, x.again)
		if e != x.want || (c == nil) != (e != api.OK) {
			t.Errorf("NewCache(%d, %d): %v, %d; want %d", x.age, x.again, c != nil, e, x.want)
		}
		known(t, c, 0, 0, 0, false)
	}
}

func TestCacheNotMadeP10_2(t *testing.T) {
	for _, c := range []*routes.Cache{nil, {}} {
		for _, now := range []int{0, 5, -1, maxTick + 1} {
			for _, n := range []int{0, 65536} {
				asked(t, c, 1, string(make([]byte, n)), now, answer{fault: api.ErrMade})
			}
			learnt(t, c, 1, 2, now, api.ErrMade)
			learnt(t, c, 1, 1<<48, now, api.ErrMade)
			known(t, c, 1, now, 0, false)
		}
	}
}

func TestOrderP10_2(t *testing.T) {
	c := cache(t, 10, 10)
	for _, now := range []int{-1, math.MinInt, maxTick + 1, math.MaxInt} {
		asked(t, c, 1, "x", now, answer{fault: api.ErrOrder})
		asked(t, c, 1, string(make([]byte, 65536)), now, answer{fault: api.ErrOrder})
		learnt(t, c, 1, 2, now, api.ErrOrder)
		learnt(t, c, 1, 1<<48, now, api.ErrOrder)
		known(t, c, 1, now, 0, false)
	}
	// Known, ErrLong and ErrRange are no calls at now.
	learnt(t, c, 1, 2, 5, api.OK)
	known(t, c, 1, 14, 2, true)
	asked(t, c, 1, string(make([]byte, 65536)), 14, answer{fault: api.ErrLong})
	asked(t, c, 7, string(make([]byte, 65536)), 14, answer{fault: api.ErrLong})
	learnt(t, c, 1, 1<<48, 14, api.ErrRange)
	learnt(t, c, 1, 1<<48, maxTick+1, api.ErrOrder)
	known(t, c, 1, 4, 0, false)
	asked(t, c, 1, "x", 4, answer{fault: api.ErrOrder})
	asked(t, c, 1, "x", 5, answer{mac: 2, known: true})
	// An Ask is one, whatever it tells.
	asked(t, c, 1, "x", 6, answer{mac: 2, known: true})
	learnt(t, c, 3, 4, 5, api.ErrOrder)
	waits(t, c, 3, "x", 7, true)
	learnt(t, c, 3, 4, 6, api.ErrOrder)
	known(t, c, 1, 6, 0, false)
	known(t, c, 1, 7, 2, true)
	waits(t, c, 3, "y", 8, false)
	learnt(t, c, 3, 4, 7, api.ErrOrder)
	learnt(t, c, 3, 4, 8, api.OK, "x", "y")
	learnt(t, c, 3, 4, maxTick, api.OK)
	asked(t, c, 3, "x", maxTick-1, answer{fault: api.ErrOrder})
	asked(t, c, 3, "x", maxTick, answer{mac: 4, known: true})
	known(t, c, 3, maxTick, 4, true)
	known(t, c, 3, maxTick+1, 0, false)
	// So is one that tells ErrFull.
	c = cache(t, 10, 10)
	for i := range uint32(256) {
		waits(t, c, i, "x", 3, true)
	}
	asked(t, c, 256, "x", 9, answer{fault: api.ErrFull})
	asked(t, c, 0, "x", 8, answer{fault: api.ErrOrder})
	waits(t, c, 0, "x", 9, false)
}

func TestAgeP10_2(t *testing.T) {
	for _, age := range []int{1, 2, 10, 1 << 30} {
		for _, at := range []int{0, 7, maxTick - 1<<30} {
			c := cache(t, age, 5)
			known(t, c, 1, at, 0, false)
			learnt(t, c, 1, 0xabc, at, api.OK)
			known(t, c, 1, at, 0xabc, true)
			known(t, c, 1, at+age-1, 0xabc, true)
			known(t, c, 1, at+age, 0, false)
			known(t, c, 2, at, 0, false)
			asked(t, c, 1, "x", at+age-1, answer{mac: 0xabc, known: true})
			waits(t, c, 1, "x", at+age, true)
			known(t, c, 1, at+age, 0, false)
			learnt(t, c, 1, 0xdef, at+age, api.OK, "x")
			asked(t, c, 1, "x", at+age, answer{mac: 0xdef, known: true})
		}
	}
	// Learnt again, it is known from then on.
	c := cache(t, 10, 5)
	learnt(t, c, 1, 2, 0, api.OK)
	learnt(t, c, 1, 3, 6, api.OK)
	known(t, c, 1, 15, 3, true)
	known(t, c, 1, 16, 0, false)
	// Asking does not make it younger.
	asked(t, c, 1, "x", 15, answer{mac: 3, known: true})
	waits(t, c, 1, "x", 16, true)
}

func TestMacP10_2(t *testing.T) {
	c := cache(t, 10, 10)
	waits(t, c, 1, "x", 0, true)
	for _, mac := range []uint64{1 << 48, 1<<48 + 1, math.MaxUint64} {
		learnt(t, c, 1, mac, 0, api.ErrRange)
	}
	known(t, c, 1, 0, 0, false)
	learnt(t, c, 1, 1<<48-1, 0, api.OK, "x")
	known(t, c, 1, 0, 1<<48-1, true)
	learnt(t, c, 2, 0, 0, api.OK)
	known(t, c, 2, 0, 0, true)
	asked(t, c, 2, "x", 0, answer{known: true})
	learnt(t, c, 0, 5, 0, api.OK)
	known(t, c, 0, 0, 5, true)
	learnt(t, c, math.MaxUint32, 6, 0, api.OK)
	known(t, c, math.MaxUint32, 0, 6, true)
}

func TestLongP10_2(t *testing.T) {
	c := cache(t, 10, 10)
	asked(t, c, 1, string(make([]byte, 65536)), 0, answer{fault: api.ErrLong})
	longest := string(bytes.Repeat([]byte("x"), 65535))
	waits(t, c, 1, longest, 0, true) // the refused one is not the first that waits
	waits(t, c, 1, "", 0, false)
	learnt(t, c, 1, 2, 0, api.OK, longest, "")
	asked(t, c, 1, string(make([]byte, 65536)), 0, answer{fault: api.ErrLong}) // though it is known
}

func TestAgainP10_2(t *testing.T) {
	c := cache(t, 10, 5)
	waits(t, c, 1, "a", 3, true)
	waits(t, c, 1, "b", 3, false)
	waits(t, c, 1, "c", 7, false)
	waits(t, c, 1, "d", 8, true)
	waits(t, c, 1, "e", 9, false)
	waits(t, c, 1, "f", 12, false)
	waits(t, c, 2, "z", 12, true)
	waits(t, c, 1, "g", 20, true)
	waits(t, c, 1, "h", 24, false)
	waits(t, c, 2, "y", 24, true)
	learnt(t, c, 1, 9, 24, api.OK, "e", "f", "g", "h")
	learnt(t, c, 2, 9, 24, api.OK, "z", "y")
	// When it is too old, asking begins anew.
	c = cache(t, 1, 5)
	waits(t, c, 1, "a", 0, true)
	learnt(t, c, 1, 9, 1, api.OK, "a")
	waits(t, c, 1, "b", 2, true)
	waits(t, c, 1, "c", 6, false)
	waits(t, c, 1, "d", 7, true)
	learnt(t, c, 1, 9, 7, api.OK, "b", "c", "d")
	// Each tick, with again 1.
	c = cache(t, 10, 1)
	waits(t, c, 1, "a", 0, true)
	waits(t, c, 1, "a", 0, false)
	waits(t, c, 1, "a", 1, true)
	waits(t, c, 1, "a", 1, false)
}

func TestPendingP10_4(t *testing.T) {
	for n := range 9 {
		c := cache(t, 10, 1000)
		var want []string
		for i := range n {
			frame := fmt.Sprint("frame ", i)
			waits(t, c, 1, frame, i, i == 0)
			waits(t, c, 2, "other", i, i == 0)
			want = append(want, frame)
		}
		learnt(t, c, 1, 7, 10, api.OK, want[max(n-4, 0):]...)
		learnt(t, c, 1, 7, 10, api.OK) // once
		learnt(t, c, 1, 8, 11, api.OK)
		asked(t, c, 1, "x", 12, answer{mac: 8, known: true}) // a known one waits not
		learnt(t, c, 1, 7, 13, api.OK)
		learnt(t, c, 2, 7, 13, api.OK, slices.Repeat([]string{"other"}, min(n, 4))...)
		learnt(t, c, 3, 7, 13, api.OK)
	}
}

func TestWaitingFullP10_2(t *testing.T) {
	c := cache(t, 10, 5)
	for i := range uint32(256) {
		waits(t, c, i, "x", 0, true)
	}
	asked(t, c, 256, "x", 0, answer{fault: api.ErrFull})
	asked(t, c, 256, string(make([]byte, 65536)), 0, answer{fault: api.ErrLong})
	for i := range uint32(256) {
		waits(t, c, i, "y", 0, false)
	}
	waits(t, c, 77, "z", 5, true)
	// One that is known needs no room.
	learnt(t, c, 1000, 9, 5, api.OK)
	asked(t, c, 1000, "x", 5, answer{mac: 9, known: true})
	asked(t, c, 256, "x", 5, answer{fault: api.ErrFull})
	learnt(t, c, 77, 9, 5, api.OK, "x", "y", "z")
	waits(t, c, 256, "x", 5, true)
	asked(t, c, 257, "x", 5, answer{fault: api.ErrFull})
	learnt(t, c, 256, 9, 5, api.OK, "x")
}

func TestKnownFullP10_2(t *testing.T) {
	c := cache(t, 1000, 5)
	for i := range uint32(256) {
		learnt(t, c, 500-i, uint64(i), int(i/4), api.OK)
	}
	for i := range uint32(256) {
		known(t, c, 500-i, 63, uint64(i), true)
	}
	// Four were learnt at once: the lowest of them goes, which came last.
	for i, gone := range []uint32{497, 498, 499, 500, 493, 494} {
		known(t, c, gone, 100, uint64(500-gone), true)
		learnt(t, c, uint32(1000+i), 9, 100, api.OK)
		known(t, c, gone, 100, 0, false)
		for j := range i + 1 {
			known(t, c, uint32(1000+j), 100, 9, true)
		}
	}
	// One that is known is learnt again without another's going, and is the youngest then.
	learnt(t, c, 495, 77, 100, api.OK)
	for i := range uint32(240) {
		known(t, c, 492-i, 100, uint64(8+i), true)
	}
	known(t, c, 496, 100, 4, true)
	learnt(t, c, 2000, 9, 100, api.OK)
	known(t, c, 496, 100, 0, false)
	known(t, c, 495, 100, 77, true)
	// The new one stays, though it is the lowest of those that were learnt at once.
	c = cache(t, 1000, 5)
	for i := range uint32(256) {
		learnt(t, c, 10+i, 1, 0, api.OK)
	}
	learnt(t, c, 5, 2, 0, api.OK)
	known(t, c, 5, 0, 2, true)
	known(t, c, 10, 0, 0, false)
	known(t, c, 11, 0, 1, true)
	learnt(t, c, 6, 2, 0, api.OK)
	known(t, c, 5, 0, 0, false)
	known(t, c, 6, 0, 2, true)
}

// What is too old is not known, and makes none of the others go.
func TestOldMakesRoomP10_2(t *testing.T) {
	c := cache(t, 10, 5)
	for i := range uint32(100) {
		learnt(t, c, i, 1, 0, api.OK)
	}
	for i := range uint32(156) {
		learnt(t, c, 1000+i, 2, 5, api.OK)
	}
	for i := range uint32(100) {
		learnt(t, c, 2000+i, 3, 10, api.OK)
	}
	for i := range uint32(156) {
		known(t, c, 1000+i, 10, 2, true)
	}
	learnt(t, c, 1077, 4, 11, api.OK)
	known(t, c, 1000, 11, 2, true)
	learnt(t, c, 3000, 3, 11, api.OK)
	known(t, c, 1000, 11, 0, false)
	known(t, c, 1001, 11, 2, true)
}

// model keeps all that was learnt, and all that waits, in lists.
type model struct {
	age, again, now int
	learnt          []entry
	waiting         []entry
}

type entry struct {
	ip     uint32
	mac    uint64
	at     int
	frames []string
}

func index(l []entry, ip uint32) int {
	return slices.IndexFunc(l, func(x entry) bool { return x.ip == ip })
}

func (m *model) known(ip uint32, now int) (uint64, bool) {
	i := index(m.learnt, ip)
	if now < m.now || now > maxTick || i < 0 || now-m.learnt[i].at >= m.age {
		return 0, false
	}
	return m.learnt[i].mac, true
}

func (m *model) ask(ip uint32, frame string, now int) answer {
	if now < m.now || now > maxTick {
		return answer{fault: api.ErrOrder}
	}
	m.now = now
	if mac, ok := m.known(ip, now); ok {
		return answer{mac: mac, known: true}
	}
	i := index(m.waiting, ip)
	if i < 0 {
		if len(m.waiting) == 256 {
			return answer{fault: api.ErrFull}
		}
		m.waiting = append(m.waiting, entry{ip: ip, at: now, frames: []string{frame}})
		return answer{ask: true}
	}
	x := &m.waiting[i]
	x.frames = append(x.frames, frame)
	if len(x.frames) > 4 {
		x.frames = x.frames[1:]
	}
	if x.at <= now-m.again {
		x.at = now
		return answer{ask: true}
	}
	return answer{}
}

func (m *model) learn(ip uint32, mac uint64, now int) ([]string, api.Errno) {
	if now < m.now || now > maxTick {
		return nil, api.ErrOrder
	}
	if mac >= 1<<48 {
		return nil, api.ErrRange
	}
	m.now = now
	m.learnt = slices.DeleteFunc(m.learnt, func(x entry) bool { return x.ip == ip || now-x.at >= m.age })
	if len(m.learnt) == 256 {
		slices.SortFunc(m.learnt, func(a, b entry) int {
			if a.at != b.at {
				return a.at - b.at
			}
			return int(a.ip) - int(b.ip)
		})
		m.learnt = m.learnt[1:]
	}
	m.learnt = append(m.learnt, entry{ip: ip, mac: mac, at: now})
	i := index(m.waiting, ip)
	if i < 0 {
		return nil, api.OK
	}
	out := m.waiting[i].frames
	m.waiting = slices.Delete(m.waiting, i, i+1)
	return out, api.OK
}

func TestModelP10_2(t *testing.T) {
	full := 0
	for seed := range 60 {
		r := rand.New(rand.NewSource(int64(seed)))
		m := &model{age: 1 + r.Intn(60), again: 1 + r.Intn(10)}
		if seed%3 == 0 {
			m.age = 100000
		}
		c := cache(t, m.age, m.again)
		ips, step, learns := 1+r.Intn(10), 4, 3
		if seed%2 == 0 {
			ips, step = 500, 40 // a tick goes on once in a while, so that tables are full
		}
		if seed%4 == 0 {
			learns = 20
		}
		for i := range 3000 {
			now, to, frame := m.now, uint32(r.Intn(ips)), fmt.Sprint("frame ", i)
			if r.Intn(step) == 0 {
				now += r.Intn(4) - 1
			}
			switch r.Intn(learns) {
			case 0:
				mac := r.Uint64() >> (15 + r.Intn(4))
				want, fault := m.learn(to, mac, now)
				learnt(t, c, to, mac, now, fault, want...)
			default:
				want := m.ask(to, frame, now)
				asked(t, c, to, frame, now, want)
				if want.fault == api.ErrFull {
					full++
				}
			}
			to = uint32(r.Intn(ips))
			now = m.now + r.Intn(3) - 1
			mac, ok := m.known(to, now)
			known(t, c, to, now, mac, ok)
			if t.Failed() {
				t.Fatal("seed", seed)
			}
		}
		for to := range uint32(ips) {
			mac, ok := m.known(to, m.now)
			known(t, c, to, m.now, mac, ok)
		}
	}
	if full < 1000 {
		t.Error("ErrFull came", full, "times")
	}
}

func TestMemoryP10_5(t *testing.T) {
	c := cache(t, 10, 10)
	frame := []byte("one")
	c.Ask(1, frame, 0)
	if string(frame) != "one" {
		t.Error("an argument was changed")
	}
	copy(frame, "two")
	c.Ask(1, frame, 0)
	copy(frame, "xyz")
	c.Ask(2, frame, 0)
	l, _ := c.Learn(1, 5, 0)
	if len(l) != 2 || string(l[0]) != "one" || string(l[1]) != "two" {
		t.Fatalf("a frame that was handed in is kept: %q", l)
	}
	_ = append(l[0], "beyond"...)
	for i := range l[0][:cap(l[0])] {
		l[0][:cap(l[0])][i] = 255
	}
	if string(l[1]) != "two" {
		t.Errorf("two frames share memory: %q", l[1])
	}
	for i := range l[:cap(l)] {
		l[:cap(l)][i] = nil
	}
	learnt(t, c, 2, 5, 0, api.OK, "xyz")
}

func TestTwoAreApartP3(t *testing.T) {
	one, two := routes.NewTable(), routes.NewTable()
	added(t, one, 0, 0, 1, api.OK)
	counted(t, two, 0)
	a, b := cache(t, 10, 10), cache(t, 10, 10)
	learnt(t, a, 1, 2, 5, api.OK)
	known(t, b, 1, 5, 0, false)
	waits(t, b, 1, "x", 0, true)
}
