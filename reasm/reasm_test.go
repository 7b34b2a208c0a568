package reasm_test

import (
	"bytes"
	"math"
	"math/rand"
	"slices"
	"strings"
	"testing"

	"stopcock/api"
	"stopcock/ipwire"
	"stopcock/reasm"
)

const maxTick = 1 << 40

func parts(t testing.TB, limit, patience int) *reasm.Parts {
	t.Helper()
	p, e := reasm.New(limit, patience)
	if e != api.OK || p == nil {
		t.Fatal("New:", e)
	}
	return p
}

// piece is a fragment of the datagram id.
func piece(id uint16, offset int, more bool, data string) api.IP {
	return api.IP{ID: id, MF: more, Offset: offset, TTL: 64, Proto: 17, Src: 1, Dst: 2, Data: []byte(data)}
}

// eights is n times the 8 octets of one letter.
func eights(letter string, n int) string {
	return strings.Repeat(letter, 8*n)
}

func added(t *testing.T, p *reasm.Parts, x api.IP, now int, want string, whole bool, fault api.Errno) {
	t.Helper()
	b, ok, e := p.Add(x, now)
	if string(b) != want || ok != whole || e != fault {
		t.Errorf("Add(%d octets at %d, MF %v, at %d) = %.40q, %v, %d; want %.40q, %v, %d", len(x.Data), x.Offset, x.MF, now, b, ok, e, want, whole, fault)
	}
}

// nothing is an Add that tells nothing, behind which n datagrams are kept.
func nothing(t *testing.T, p *reasm.Parts, x api.IP, now, n int) {
	t.Helper()
	added(t, p, x, now, "", false, api.OK)
	counted(t, p, n)
}

// refused is an Add that tells an error, behind which n datagrams are kept.
func refused(t *testing.T, p *reasm.Parts, x api.IP, now int, fault api.Errno, n int) {
	t.Helper()
	added(t, p, x, now, "", false, fault)
	counted(t, p, n)
}

// told is an Add that tells a whole datagram, behind which n are kept.
func told(t *testing.T, p *reasm.Parts, x api.IP, now int, want string, n int) {
	t.Helper()
	added(t, p, x, now, want, true, api.OK)
	counted(t, p, n)
}

func counted(t *testing.T, p *reasm.Parts, n int) {
	t.Helper()
	if p.Len() != n {
		t.Errorf("Len = %d; want %d", p.Len(), n)
	}
}

func TestExample(t *testing.T) {
	p := parts(t, 1, 10)
	nothing(t, p, piece(1, 8, false, "yy"), 0, 1)
	told(t, p, piece(1, 0, true, "xxxxxxxx"), 0, "xxxxxxxxyy", 0)
}

func TestNewP9_1(t *testing.T) {
	for _, x := range []struct {
		limit, patience int
		want            api.Errno
	}{
		{1, 1, api.OK}, {64, 1, api.OK}, {1, 1 << 30, api.OK}, {64, 1 << 30, api.OK},
		{0, 1, api.ErrConfig}, {-1, 1, api.ErrConfig}, {65, 1, api.ErrConfig}, {math.MinInt, 1, api.ErrConfig}, {math.MaxInt, 1, api.ErrConfig},
		{1, 0, api.ErrConfig}, {1, -1, api.ErrConfig}, {1, 1<<30 + 1, api.ErrConfig}, {1, math.MinInt, api.ErrConfig}, {1, math.MaxInt, api.ErrConfig},
		{0, 0, api.ErrConfig},
	} {
		p, e := reasm.New(x.limit, x.patience)
		if e != x.want || (p == nil) != (e != api.OK) || p.Len() != 0 {
			t.Errorf("New(%d, %d): %v, %d; want %d", x.limit, x.patience, p != nil, e, x.want)
		}
	}
}

func TestNotMadeP9_2(t *testing.T) {
	for _, p := range []*reasm.Parts{nil, {}} {
		refused(t, p, piece(1, 0, false, "whole"), 0, api.ErrMade, 0)
		refused(t, p, piece(1, 0, true, "xxxxxxxx"), 0, api.ErrMade, 0)
		refused(t, p, piece(1, 3, true, "xxxxxxxx"), -1, api.ErrMade, 0)
	}
}

func TestWholeP9_2(t *testing.T) {
	p := parts(t, 1, 10)
	x := piece(1, 0, false, "hi")
	told(t, p, x, 0, "hi", 0)
	x.DF, x.TOS, x.TTL, x.Options = true, 3, 0, []byte{1, 1, 1, 1}
	told(t, p, x, 0, "hi", 0)
	told(t, p, piece(1, 0, false, ""), 0, "", 0)
	told(t, p, api.IP{}, 0, "", 0)
	long := strings.Repeat("z", 65515)
	told(t, p, piece(1, 0, false, long), 0, long, 0)
	// One that is whole is told beside fragments of its name, and though the limit is there.
	nothing(t, p, piece(1, 8, false, "yy"), 0, 1)
	told(t, p, piece(1, 0, false, "hi"), 0, "hi", 1)
	told(t, p, piece(2, 0, false, "hi"), 0, "hi", 1)
	told(t, p, piece(1, 0, true, "xxxxxxxx"), 0, "xxxxxxxxyy", 0)
}

// Check's error goes ahead of ErrOrder, and such a call is none at its tick.
func TestCheckP9_2(t *testing.T) {
	p := parts(t, 2, 10)
	nothing(t, p, piece(1, 0, true, "xxxxxxxx"), 5, 1)
	wrong := piece(1, 0, false, "")
	for _, offset := range []int{-8, -1, 1, 4, 7, 9, 65529, 65536, math.MinInt, math.MaxInt} {
		wrong.Offset = offset
		for _, now := range []int{-1, 4, 5, 1000, maxTick + 1} {
			refused(t, p, wrong, now, api.ErrFragment, 1)
		}
	}
	for _, n := range []int{1, 2, 3, 5, 41, 44} {
		wrong = piece(1, 0, false, "whole")
		wrong.Options = make([]byte, n)
		refused(t, p, wrong, 1000, api.ErrLength, 1)
		wrong.Offset, wrong.MF = 8, true
		refused(t, p, wrong, 1000, api.ErrLength, 1)
	}
	refused(t, p, piece(1, 0, false, strings.Repeat("z", 65516)), 1000, api.ErrLong, 1)
	refused(t, p, piece(1, 8, true, strings.Repeat("z", 65520)), 1000, api.ErrLong, 1)
	wrong = piece(1, 0, false, strings.Repeat("z", 65512))
	wrong.Options = make([]byte, 4)
	refused(t, p, wrong, -1, api.ErrLong, 1)
	told(t, p, piece(1, 8, false, "yy"), 5, "xxxxxxxxyy", 0)
}

func TestOrderP9_2(t *testing.T) {
	p := parts(t, 2, 10)
	x := piece(1, 0, false, "hi")
	for _, now := range []int{-1, math.MinInt, maxTick + 1, math.MaxInt} {
		refused(t, p, x, now, api.ErrOrder, 0)
	}
	told(t, p, x, 0, "hi", 0)
	told(t, p, x, 7, "hi", 0)
	told(t, p, x, 7, "hi", 0)
	refused(t, p, x, 6, api.ErrOrder, 0)
	refused(t, p, piece(1, 0, true, ""), 6, api.ErrOrder, 0) // ahead of what a fragment may not be
	told(t, p, x, maxTick, "hi", 0)
	refused(t, p, x, maxTick+1, api.ErrOrder, 0)
	refused(t, p, x, maxTick-1, api.ErrOrder, 0)
	told(t, p, x, maxTick, "hi", 0)
}

// Whatever is told behind ErrOrder, the call is one at now: it sets the tick, and forgets.
func TestCountsAsOneP9_2(t *testing.T) {
	for what, x := range map[string]api.IP{
		"whole":       piece(9, 0, false, "hi"),
		"ErrFragment": piece(9, 0, true, "x"),
		"ErrFull":     piece(9, 0, true, "xxxxxxxx"),
		"twice":       piece(2, 0, true, "xxxxxxxx"),
		"ErrOverlap":  piece(2, 0, true, eights("x", 2)),
		"kept":        piece(2, 8, true, "xxxxxxxx"),
		"the end":     piece(2, 8, false, "x"),
	} {
		p := parts(t, 2, 10)
		p.Add(piece(1, 0, true, "xxxxxxxx"), 0)
		p.Add(piece(2, 0, true, "xxxxxxxx"), 5)
		p.Add(x, 9)
		if _, _, e := p.Add(piece(3, 0, false, ""), 8); e != api.ErrOrder {
			t.Errorf("%s: Add behind it = %d", what, e)
		}
		p = parts(t, 2, 10)
		p.Add(piece(1, 0, true, "xxxxxxxx"), 0)
		p.Add(piece(2, 0, true, "xxxxxxxx"), 5)
		p.Add(x, 10)
		b, ok, e := p.Add(piece(1, 8, false, "yy"), 10)
		if len(b) != 0 || ok || e != api.OK && e != api.ErrFull {
			t.Errorf("%s: the first one was not forgotten: %q, %v, %d", what, b, ok, e)
		}
	}
}

func TestPatienceP9_2(t *testing.T) {
	for _, patience := range []int{1, 2, 10, 1 << 30} {
		for _, first := range []int{0, 3, maxTick - 1<<30} {
			p := parts(t, 2, patience)
			nothing(t, p, piece(1, 0, true, "xxxxxxxx"), first, 1)
			told(t, p, piece(1, 8, false, "yy"), first+patience-1, "xxxxxxxxyy", 0)
			p = parts(t, 2, patience)
			nothing(t, p, piece(1, 0, true, "xxxxxxxx"), first, 1)
			nothing(t, p, piece(1, 8, false, "yy"), first+patience, 1)
			told(t, p, piece(1, 0, true, "zzzzzzzz"), first+patience, "zzzzzzzzyy", 0)
		}
	}
	// It is the first fragment that came that counts, not the first place, nor a later one.
	p := parts(t, 2, 10)
	nothing(t, p, piece(1, 16, false, "z"), 0, 1)
	nothing(t, p, piece(1, 0, true, "xxxxxxxx"), 5, 1)
	nothing(t, p, piece(1, 0, true, "xxxxxxxx"), 9, 1)
	nothing(t, p, piece(1, 8, true, "yyyyyyyy"), 10, 1)
	nothing(t, p, piece(2, 8, true, "yyyyyyyy"), 19, 2)
	told(t, p, piece(3, 0, false, "w"), 20, "w", 1)
	// A refused fragment is no first one.
	p = parts(t, 2, 10)
	refused(t, p, piece(1, 0, true, ""), 0, api.ErrFragment, 0)
	nothing(t, p, piece(1, 0, true, "xxxxxxxx"), 5, 1)
	told(t, p, piece(1, 8, false, "yy"), 14, "xxxxxxxxyy", 0)
	// All that are too old go by one call, and make room.
	p = parts(t, 64, 3)
	for id := range 64 {
		nothing(t, p, piece(uint16(id), 0, true, "xxxxxxxx"), id/32, id+1)
	}
	refused(t, p, piece(99, 0, true, "xxxxxxxx"), 2, api.ErrFull, 64)
	nothing(t, p, piece(99, 0, true, "xxxxxxxx"), 3, 33)
	nothing(t, p, piece(98, 0, true, "xxxxxxxx"), maxTick, 1)
}

func TestFragmentP9_2(t *testing.T) {
	p := parts(t, 1, 10)
	for n := range 65 {
		data := strings.Repeat("x", n)
		if n%8 != 0 || n == 0 {
			refused(t, p, piece(1, 0, true, data), 0, api.ErrFragment, 0)
			refused(t, p, piece(1, 800, true, data), 0, api.ErrFragment, 0)
		}
	}
	for _, offset := range []int{8, 16, 65512, 65528} {
		refused(t, p, piece(1, offset, false, ""), 0, api.ErrFragment, 0)
	}
	// Offset and Data together may be 65515.
	for _, x := range []struct {
		offset, n int
		more, ok  bool
	}{
		{65512, 3, false, true}, {65512, 4, false, false}, {65512, 8, true, false}, {65504, 8, true, true}, {65504, 11, false, true},
		{65504, 12, false, false}, {65504, 16, true, false}, {65520, 1, false, false}, {65528, 1, false, false}, {65528, 8, true, false},
		{8, 65507, false, true}, {8, 65508, false, false}, {8, 65504, true, true}, {8, 65512, true, false}, {0, 65512, true, true},
	} {
		p = parts(t, 1, 10)
		if x.ok {
			nothing(t, p, piece(1, x.offset, x.more, strings.Repeat("x", x.n)), 0, 1)
			continue
		}
		refused(t, p, piece(1, x.offset, x.more, strings.Repeat("x", x.n)), 0, api.ErrFragment, 0)
	}
	// ErrFragment goes ahead of ErrFull and ErrOverlap, and forgets nothing.
	p = parts(t, 1, 10)
	nothing(t, p, piece(1, 0, true, eights("x", 2)), 0, 1)
	refused(t, p, piece(2, 0, true, "x"), 0, api.ErrFragment, 1)
	refused(t, p, piece(1, 8, true, "x"), 0, api.ErrFragment, 1)
	told(t, p, piece(1, 16, false, "y"), 0, eights("x", 2)+"y", 0)
}

func TestLongestP9_2(t *testing.T) {
	p := parts(t, 1, 10)
	nothing(t, p, piece(1, 65512, false, "end"), 0, 1)
	told(t, p, piece(1, 0, true, strings.Repeat("x", 65512)), 0, strings.Repeat("x", 65512)+"end", 0)
	// 8189 units and an end, from the last one to the first.
	nothing(t, p, piece(1, 65512, false, "end"), 0, 1)
	want := "end"
	for at := 65504; at > 0; at -= 8 {
		data := strings.Repeat(string(rune('a'+at/8%26)), 8)
		if b, ok, e := p.Add(piece(1, at, true, data), 0); len(b) != 0 || ok || e != api.OK {
			t.Fatal("Add:", at, len(b), ok, e)
		}
		want = data + want
	}
	told(t, p, piece(1, 0, true, "........"), 0, "........"+want, 0)
}

// A datagram is known by Src, Dst, Proto and ID, and by nothing else.
func TestNameP9_2(t *testing.T) {
	first := piece(1, 0, true, "xxxxxxxx")
	for what, change := range map[string]func(x *api.IP){
		"Src":   func(x *api.IP) { x.Src ^= 1 << 31 },
		"Dst":   func(x *api.IP) { x.Dst ^= 1 << 31 },
		"both":  func(x *api.IP) { x.Src, x.Dst = x.Dst, x.Src },
		"Proto": func(x *api.IP) { x.Proto ^= 128 },
		"ID":    func(x *api.IP) { x.ID ^= 1 << 15 },
	} {
		p := parts(t, 2, 10)
		nothing(t, p, first, 0, 1)
		other := piece(1, 8, false, "other")
		change(&other)
		t.Log(what)
		nothing(t, p, other, 0, 2)
		told(t, p, piece(1, 8, false, "yy"), 0, "xxxxxxxxyy", 1)
		head := first
		change(&head)
		told(t, p, head, 0, "xxxxxxxxother", 0)
		// At the limit, it is not known.
		p = parts(t, 1, 10)
		nothing(t, p, first, 0, 1)
		refused(t, p, other, 0, api.ErrFull, 1)
		told(t, p, piece(1, 8, false, "yy"), 0, "xxxxxxxxyy", 0)
	}
	p := parts(t, 1, 10)
	nothing(t, p, first, 0, 1)
	same := piece(1, 8, false, "yy")
	same.TOS, same.TTL, same.DF, same.Options = 255, 1, true, make([]byte, 40)
	told(t, p, same, 0, "xxxxxxxxyy", 0)
}

func TestFullP9_2(t *testing.T) {
	for _, limit := range []int{1, 2, 16, 63, 64} {
		p := parts(t, limit, 10)
		for id := range limit {
			nothing(t, p, piece(uint16(id), 8*id, true, "xxxxxxxx"), 0, id+1)
		}
		refused(t, p, piece(99, 0, true, "xxxxxxxx"), 0, api.ErrFull, limit)
		refused(t, p, piece(99, 8, false, "x"), 0, api.ErrFull, limit)
		// One that is known goes on.
		nothing(t, p, piece(0, 8, true, "yyyyyyyy"), 0, limit)
		told(t, p, piece(0, 16, false, "z"), 0, "xxxxxxxxyyyyyyyyz", limit-1)
		nothing(t, p, piece(99, 8, false, "x"), 0, limit)
		refused(t, p, piece(0, 0, true, "xxxxxxxx"), 0, api.ErrFull, limit)
		// So does an overlap make room.
		refused(t, p, piece(99, 8, true, "xxxxxxxx"), 0, api.ErrOverlap, limit-1)
		nothing(t, p, piece(0, 0, true, "xxxxxxxx"), 0, limit)
	}
}

// One with the Offset, the length and the MF of one that is there tells nothing, whatever its octets.
func TestTwiceP9_2(t *testing.T) {
	p := parts(t, 1, 10)
	nothing(t, p, piece(1, 0, true, "xxxxxxxx"), 0, 1)
	nothing(t, p, piece(1, 0, true, "zzzzzzzz"), 0, 1)
	nothing(t, p, piece(1, 16, false, "z"), 0, 1)
	nothing(t, p, piece(1, 16, false, "w"), 0, 1)
	nothing(t, p, piece(1, 0, true, "wwwwwwww"), 0, 1)
	told(t, p, piece(1, 8, true, "yyyyyyyy"), 0, "xxxxxxxxyyyyyyyyz", 0)
	// Behind the whole they begin anew.
	nothing(t, p, piece(1, 0, true, "wwwwwwww"), 0, 1)
	told(t, p, piece(1, 8, false, "v"), 0, "wwwwwwwwv", 0)
}

func TestOverlapP9_2(t *testing.T) {
	for what, l := range map[string][]api.IP{
		"the same place, longer":       {piece(1, 8, true, "xxxxxxxx"), piece(1, 8, true, eights("x", 2))},
		"the same place, shorter":      {piece(1, 8, true, eights("x", 2)), piece(1, 8, true, "xxxxxxxx")},
		"the same place, as an end":    {piece(1, 8, true, "xxxxxxxx"), piece(1, 8, false, "xxxxxxxx")},
		"the same end, as none":        {piece(1, 8, false, "xxxxxxxx"), piece(1, 8, true, "xxxxxxxx")},
		"the same end, shorter":        {piece(1, 8, false, "xxxxxxxx"), piece(1, 8, false, "xxxxxxx")},
		"the same end, longer":         {piece(1, 8, false, "xxxxxxxx"), piece(1, 8, false, "xxxxxxxxx")},
		"a longer one's middle":        {piece(1, 0, true, eights("x", 3)), piece(1, 8, true, "xxxxxxxx")},
		"a longer one's last":          {piece(1, 0, true, eights("x", 3)), piece(1, 16, true, "xxxxxxxx")},
		"a longer one's last, the end": {piece(1, 0, true, eights("x", 3)), piece(1, 16, false, "x")},
		"from its last on":             {piece(1, 0, true, eights("x", 3)), piece(1, 16, true, eights("x", 2))},
		"over its first":               {piece(1, 16, true, eights("x", 3)), piece(1, 8, true, eights("x", 2))},
		"around it":                    {piece(1, 16, true, "xxxxxxxx"), piece(1, 8, true, eights("x", 3))},
		"around all":                   {piece(1, 8, true, "xxxxxxxx"), piece(1, 24, true, "xxxxxxxx"), piece(1, 0, true, eights("x", 5))},
		"between, into the next":       {piece(1, 0, true, "xxxxxxxx"), piece(1, 16, true, "xxxxxxxx"), piece(1, 8, true, eights("x", 2))},
		"into the end":                 {piece(1, 16, false, "x"), piece(1, 8, true, eights("x", 2))},
		"up to the end, over it":       {piece(1, 16, false, "xxxxxxxx"), piece(1, 8, true, eights("x", 2))},
		"behind the end":               {piece(1, 16, false, "xxxxxxxx"), piece(1, 24, true, "xxxxxxxx")},
		"far behind the end":           {piece(1, 16, false, "x"), piece(1, 800, true, "xxxxxxxx")},
		"an end behind the end":        {piece(1, 16, false, "xxxxxxxx"), piece(1, 24, false, "x")},
		"an end behind an odd end":     {piece(1, 16, false, "x"), piece(1, 24, false, "x")},
		"an end ahead of the end":      {piece(1, 16, false, "x"), piece(1, 8, false, "x")},
		"an end that touches the end":  {piece(1, 16, false, "x"), piece(1, 8, false, "xxxxxxxx")},
		"an end ahead of a place":      {piece(1, 16, true, "xxxxxxxx"), piece(1, 8, false, "x")},
		"an end that touches a place":  {piece(1, 16, true, "xxxxxxxx"), piece(1, 8, false, "xxxxxxxx")},
		"an end over all":              {piece(1, 16, true, "xxxxxxxx"), piece(1, 8, false, eights("x", 3))},
		"an end ahead of a far place":  {piece(1, 0, true, "xxxxxxxx"), piece(1, 8000, true, "xxxxxxxx"), piece(1, 16, false, "x")},
	} {
		p := parts(t, 2, 10)
		t.Log(what)
		nothing(t, p, piece(2, 8, false, "yy"), 0, 1)
		for _, x := range l[:len(l)-1] {
			nothing(t, p, x, 0, 2)
		}
		refused(t, p, l[len(l)-1], 0, api.ErrOverlap, 1)
		// It is forgotten: what came is not there any more; the other one is.
		nothing(t, p, piece(1, 8, false, "zz"), 0, 2)
		told(t, p, piece(1, 0, true, "wwwwwwww"), 0, "wwwwwwwwzz", 1)
		told(t, p, piece(2, 0, true, "xxxxxxxx"), 0, "xxxxxxxxyy", 0)
	}
}

// What only touches does not overlap.
func TestTouchesP9_2(t *testing.T) {
	p := parts(t, 1, 10)
	nothing(t, p, piece(1, 16, true, "cccccccc"), 0, 1)
	nothing(t, p, piece(1, 32, false, "eeeeeeee"), 0, 1)
	nothing(t, p, piece(1, 8, true, "bbbbbbbb"), 0, 1)
	nothing(t, p, piece(1, 24, true, "dddddddd"), 0, 1)
	told(t, p, piece(1, 0, true, "aaaaaaaa"), 0, "aaaaaaaabbbbbbbbccccccccddddddddeeeeeeee", 0)
	// All places, but no end.
	nothing(t, p, piece(1, 8, true, "bbbbbbbb"), 0, 1)
	nothing(t, p, piece(1, 0, true, "aaaaaaaa"), 0, 1)
	told(t, p, piece(1, 16, false, "c"), 0, "aaaaaaaabbbbbbbbc", 0)
}

// fragmentsOf cuts data at random units.
func fragmentsOf(r *rand.Rand, id uint16, data string) []api.IP {
	var l []api.IP
	at := 0
	for len(data)-at > 8 && (at == 0 || r.Intn(6) > 0) {
		n := 8 * (1 + r.Intn(min(9, (len(data)-at-1)/8)))
		l = append(l, piece(id, at, true, data[at:at+n]))
		at += n
	}
	return append(l, piece(id, at, false, data[at:]))
}

func text(r *rand.Rand, n int) string {
	b := make([]byte, n)
	r.Read(b)
	return string(b)
}

func TestAnyOrderP9_4(t *testing.T) {
	for seed := range 400 {
		r := rand.New(rand.NewSource(int64(seed)))
		p := parts(t, 5, 1000)
		texts := map[uint16]string{}
		var l []api.IP
		for id := range uint16(5) {
			texts[id] = text(r, 9+r.Intn(300))
			l = append(l, fragmentsOf(r, id, texts[id])...)
		}
		for range r.Intn(10) { // some twice
			x := l[r.Intn(len(l))]
			l = append(l, x)
		}
		r.Shuffle(len(l), func(i, j int) { l[i], l[j] = l[j], l[i] })
		due := map[uint16]int{} // how many are to come till all are there
		for _, x := range l {
			due[x.ID]++
		}
		came := map[[2]int]bool{}
		size := map[uint16]int{}
		times := map[uint16]int{}
		for _, x := range l {
			if key := [2]int{int(x.ID), x.Offset}; !came[key] {
				came[key] = true
				size[x.ID] += len(x.Data)
			} else if times[x.ID] > 0 {
				continue // behind the whole it would begin anew
			}
			b, ok, e := p.Add(x, 7)
			if e != api.OK || ok != (size[x.ID] == len(texts[x.ID])) || ok && string(b) != texts[x.ID] || !ok && len(b) != 0 {
				t.Fatalf("seed %d: Add = %q, %v, %d; want %q", seed, b, ok, e, texts[x.ID])
			}
			if ok {
				times[x.ID]++
			}
		}
		for id := range texts {
			if times[id] != 1 {
				t.Fatalf("seed %d: the datagram %d was told %d times", seed, id, times[id])
			}
		}
		counted(t, p, 0)
	}
}

// model keeps each octet by its place.
type model struct {
	limit, patience, now int
	kept                 []*datagram
}

type datagram struct {
	x      api.IP
	since  int
	pieces []api.IP
	octets map[int]byte
	end    int
}

func (m *model) add(x api.IP, now int) ([]byte, bool, api.Errno) {
	if e := ipwire.Check(x); e != api.OK {
		return nil, false, e
	}
	if now < m.now || now > maxTick {
		return nil, false, api.ErrOrder
	}
	m.now = now
	m.kept = slices.DeleteFunc(m.kept, func(d *datagram) bool { return d.since <= now-m.patience })
	switch n := len(x.Data); {
	case x.Offset == 0 && !x.MF:
		return x.Data, true, api.OK
	case x.MF && (n == 0 || n%8 != 0), n == 0 && x.Offset > 0, n+x.Offset > 65515:
		return nil, false, api.ErrFragment
	}
	i := slices.IndexFunc(m.kept, func(d *datagram) bool {
		return d.x.Src == x.Src && d.x.Dst == x.Dst && d.x.Proto == x.Proto && d.x.ID == x.ID
	})
	if i < 0 {
		if len(m.kept) == m.limit {
			return nil, false, api.ErrFull
		}
		i = len(m.kept)
		m.kept = append(m.kept, &datagram{x: x, since: now, octets: map[int]byte{}, end: -1})
	}
	d := m.kept[i]
	for _, y := range d.pieces {
		if y.Offset == x.Offset && len(y.Data) == len(x.Data) && y.MF == x.MF {
			return nil, false, api.OK
		}
	}
	if d.overlaps(x) {
		m.kept = slices.Delete(m.kept, i, i+1)
		return nil, false, api.ErrOverlap
	}
	d.pieces = append(d.pieces, x)
	for j, y := range x.Data {
		d.octets[x.Offset+j] = y
	}
	if !x.MF {
		d.end = x.Offset + len(x.Data)
	}
	var out []byte
	for j := range max(d.end, 0) {
		y, ok := d.octets[j]
		if !ok {
			return nil, false, api.OK
		}
		out = append(out, y)
	}
	if d.end < 0 {
		return nil, false, api.OK
	}
	m.kept = slices.Delete(m.kept, i, i+1)
	return out, true, api.OK
}

func (d *datagram) overlaps(x api.IP) bool {
	to := x.Offset + len(x.Data)
	for j := x.Offset; j < to; j++ {
		if _, ok := d.octets[j]; ok {
			return true
		}
	}
	for j := range d.octets {
		if !x.MF && j >= to {
			return true
		}
	}
	return d.end >= 0 && (to > d.end || !x.MF)
}

func TestModelP9_2(t *testing.T) {
	all := map[api.Errno]int{}
	wholes := 0
	for seed := range 300 {
		r := rand.New(rand.NewSource(int64(seed)))
		m := &model{limit: 1 + r.Intn(4), patience: 1 + r.Intn(30)}
		p := parts(t, m.limit, m.patience)
		names, units := 1+r.Intn(5), 2+r.Intn(6)
		for range 300 {
			x := piece(uint16(r.Intn(names)), 8*r.Intn(units), r.Intn(3) > 0, text(r, 8*(1+r.Intn(2))))
			switch r.Intn(12) {
			case 0:
				x.Data = x.Data[:r.Intn(len(x.Data)+1)]
			case 1:
				x.Offset += r.Intn(9)
			case 2:
				x.Offset = 65488 + 8*r.Intn(6)
			case 3:
				x.Options = make([]byte, r.Intn(9))
			case 4:
				x.Src, x.Proto = uint32(r.Intn(2)), byte(r.Intn(2))
			}
			now := m.now
			if r.Intn(3) == 0 {
				now += r.Intn(4) - r.Intn(2)
			}
			b, ok, e := p.Add(x, now)
			wb, wok, we := m.add(x, now)
			if !bytes.Equal(b, wb) || ok != wok || e != we || p.Len() != len(m.kept) {
				t.Fatalf("seed %d: Add(%+v, %d) = %x, %v, %d, Len %d; want %x, %v, %d, %d", seed, x, now, b, ok, e, p.Len(), wb, wok, we, len(m.kept))
			}
			if p.Len() > m.limit {
				t.Fatalf("P9.5: Len = %d of at most %d", p.Len(), m.limit)
			}
			all[e]++
			if ok && x.Offset+len(x.Data) > 8 {
				wholes++
			}
		}
	}
	for _, e := range []api.Errno{api.OK, api.ErrFragment, api.ErrLength, api.ErrOrder, api.ErrFull, api.ErrOverlap} {
		if all[e] < 100 {
			t.Errorf("error %d came %d times", e, all[e])
		}
	}
	if wholes < 100 {
		t.Error("wholes:", wholes)
	}
}

func TestLimitP9_5(t *testing.T) {
	r := rand.New(rand.NewSource(3))
	for _, limit := range []int{1, 3, 64} {
		p := parts(t, limit, 50)
		most := 0
		for now := range 5000 {
			p.Add(piece(uint16(r.Intn(500)), 8*r.Intn(3), r.Intn(2) == 0, "xxxxxxxx"), now/4)
			if p.Len() > limit {
				t.Fatalf("%d are kept; the limit is %d", p.Len(), limit)
			}
			most = max(most, p.Len())
		}
		if most != limit {
			t.Errorf("at most %d were kept; the limit is %d", most, limit)
		}
	}
}

func TestMemoryP9_6(t *testing.T) {
	p := parts(t, 1, 10)
	x := piece(1, 8, true, "yyyyyyyy")
	x.Options = []byte{1, 2, 3, 4}
	p.Add(x, 0)
	if string(x.Data) != "yyyyyyyy" || !bytes.Equal(x.Options, []byte{1, 2, 3, 4}) {
		t.Error("an argument was changed")
	}
	clear(x.Data)
	end := piece(1, 16, false, "z")
	p.Add(end, 0)
	clear(end.Data)
	first := piece(1, 0, true, "xxxxxxxx")
	b, ok, _ := p.Add(first, 0)
	clear(first.Data)
	if string(b) != "xxxxxxxxyyyyyyyyz" || !ok {
		t.Errorf("what was handed in is kept, or shared: %q, %v", b, ok)
	}
	whole := piece(1, 0, false, "whole")
	b, _, _ = p.Add(whole, 0)
	for i := range b[:cap(b)] {
		b[:cap(b)][i] = 255
	}
	if string(whole.Data) != "whole" {
		t.Errorf("an answer shares memory with its argument: %q", whole.Data)
	}
	clear(whole.Data)
	if b[0] != 255 {
		t.Error("an argument shares memory with an answer")
	}
}

func FuzzAdd(f *testing.F) {
	f.Add([]byte{1, 8, 2, 0, 0, 1, 0, 8, 0})
	f.Fuzz(func(t *testing.T, script []byte) {
		m := &model{limit: 2, patience: 5}
		p := parts(t, 2, 5)
		for ; len(script) >= 4; script = script[4:] {
			x := piece(uint16(script[0]%3), 8*int(script[1]%16), script[0]&128 != 0, strings.Repeat("x", int(script[2]%32)))
			now := m.now + int(script[3]%4)
			b, ok, e := p.Add(x, now)
			wb, wok, we := m.add(x, now)
			if !bytes.Equal(b, wb) || ok != wok || e != we || p.Len() != len(m.kept) {
				t.Fatalf("Add(%+v, %d) = %x, %v, %d; want %x, %v, %d", x, now, b, ok, e, wb, wok, we)
			}
		}
	})
}
