package scoreboard_test

import (
	"fmt"
	"math"
	"math/rand"
	"slices"
	"testing"

	"stopcock/api"
	"stopcock/scoreboard"
)

const window = 1 << 30

type state = scoreboard.State

// blocks lays blocks by their edges, from una on.
func blocks(una uint32, edges ...uint32) []api.Block {
	var l []api.Block
	for i := 0; i < len(edges); i += 2 {
		l = append(l, api.Block{Left: una + edges[i], Right: una + edges[i+1]})
	}
	return l
}

// example is the state of the chapter's example, wherever it begins.
func example(una uint32) state {
	return state{Una: una, Nxt: una + 50, High: una, Sacked: blocks(una, 10, 20, 30, 40, 45, 50)}
}

func same(a, b state) bool {
	return a.Una == b.Una && a.Nxt == b.Nxt && a.High == b.High && slices.Equal(a.Sacked, b.Sacked)
}

func is(t *testing.T, what string, got state, e api.Errno, want state, fault api.Errno) {
	t.Helper()
	if !same(got, want) || e != fault {
		t.Errorf("%s = %.300v, %d; want %.300v, %d", what, fmt.Sprint(got), e, fmt.Sprint(want), fault)
	}
	if fault == api.OK && scoreboard.Check(got) != api.OK {
		t.Errorf("P17.7: %s = %+v, which may not be", what, got)
	}
}

func acked(t *testing.T, s state, ack uint32, l []api.Block, want state, newly int, fault api.Errno) {
	t.Helper()
	got, n, e := scoreboard.Ack(s, ack, l)
	is(t, "Ack", got, e, want, fault)
	if n != newly {
		t.Errorf("Ack of %d, %v: %d came newly; want %d", ack, l, n, newly)
	}
}

func lost(t *testing.T, s state, mss int, seq uint32, want bool, fault api.Errno) {
	t.Helper()
	if got, e := scoreboard.Lost(s, mss, seq); got != want || e != fault {
		t.Errorf("Lost(%+v, %d, %d) = %v, %d; want %v, %d", s, mss, seq, got, e, want, fault)
	}
}

func pipe(t *testing.T, s state, mss, want int, fault api.Errno) {
	t.Helper()
	if got, e := scoreboard.Pipe(s, mss); got != want || e != fault {
		t.Errorf("Pipe(%+v, %d) = %d, %d; want %d, %d", s, mss, got, e, want, fault)
	}
}

func next(t *testing.T, s state, mss int, rescue bool, want api.Block, ok bool, fault api.Errno) {
	t.Helper()
	if got, there, e := scoreboard.Next(s, mss, rescue); got != want || there != ok || e != fault {
		t.Errorf("Next(%+v, %d, %v) = %v, %v, %d; want %v, %v, %d", s, mss, rescue, got, there, e, want, ok, fault)
	}
}

func TestExample(t *testing.T) {
	for _, una := range []uint32{0, 1, 1<<32 - 1, 1<<32 - 15, 1<<32 - 45, 1 << 31} {
		s := example(una)
		for i := range uint32(50) {
			lost(t, s, 10, una+i, i < 10, api.OK)
		}
		pipe(t, s, 10, 15, api.OK)
		next(t, s, 10, false, blocks(una, 0, 10)[0], true, api.OK)
	}
}

func TestNewP17_1(t *testing.T) {
	for _, first := range []uint32{0, 1, 1 << 31, 1<<32 - 1} {
		s := scoreboard.New(first)
		is(t, "New", s, api.OK, state{Una: first, Nxt: first, High: first}, api.OK)
		pipe(t, s, 1, 0, api.OK)
		next(t, s, 1, true, api.Block{}, false, api.OK)
	}
}

// faulty gives states that may not be.
func faulty(una uint32) map[string]state {
	out := map[string]state{
		"too much on its way": {Una: una, Nxt: una + window + 1, High: una},
		"Nxt behind Una":      {Una: una, Nxt: una - 1, High: una},
		"High behind Nxt":     {Una: una, Nxt: una + 50, High: una + 51},
		"High ahead of Una":   {Una: una, Nxt: una + 50, High: una - 1},
	}
	for what, edges := range map[string][]uint32{
		"at Una":          {0, 10},
		"ahead of Una":    {1<<32 - 5, 10},
		"all ahead":       {1<<32 - 5, 1<<32 - 2},
		"empty":           {10, 10},
		"turned round":    {10, 9},
		"back to Una":     {10, 0},
		"behind Nxt":      {40, 51},
		"far behind":      {60, 70},
		"touching":        {10, 20, 20, 30},
		"overlapping":     {10, 20, 19, 30},
		"falling":         {30, 40, 10, 20},
		"twice":           {10, 20, 10, 20},
		"one in another":  {10, 30, 15, 20},
		"empty, behind":   {10, 20, 30, 30},
		"behind, behind":  {10, 20, 30, 51},
		"the third falls": {10, 20, 40, 50, 30, 35},
	} {
		out[what] = state{Una: una, Nxt: una + 50, High: una, Sacked: blocks(una, edges...)}
	}
	many := state{Una: una, Nxt: una + 5000, High: una}
	for i := range uint32(1025) {
		many.Sacked = append(many.Sacked, api.Block{Left: una + 2*i + 1, Right: una + 2*i + 2})
	}
	out["too many blocks"] = many
	return out
}

func TestCheckP17_1(t *testing.T) {
	for _, una := range []uint32{0, 1, 1<<32 - 1, 1<<32 - 30} {
		for what, s := range faulty(una) {
			if e := scoreboard.Check(s); e != api.ErrState {
				t.Errorf("Check, %s: %d; want ErrState", what, e)
			}
			got, e := scoreboard.Sent(s, -1)
			is(t, "Sent", got, e, state{}, api.ErrState)
			acked(t, s, una-7, nil, state{}, 0, api.ErrState)
			lost(t, s, 0, una-7, false, api.ErrState)
			pipe(t, s, 0, 0, api.ErrState)
			next(t, s, 0, true, api.Block{}, false, api.ErrState)
			got, e = scoreboard.Resent(s, una-7)
			is(t, "Resent", got, e, state{}, api.ErrState)
			got, e = scoreboard.Timeout(s)
			is(t, "Timeout", got, e, state{}, api.ErrState)
		}
		many := faulty(una)["too many blocks"]
		many.Sacked = many.Sacked[:1024]
		for what, s := range map[string]state{
			"none on its way": {Una: una, Nxt: una, High: una},
			"a window":        {Una: una, Nxt: una + window, High: una},
			"High at Nxt":     {Una: una, Nxt: una + 50, High: una + 50},
			"up to Nxt":       {Una: una, Nxt: una + 50, High: una, Sacked: blocks(una, 1, 50)},
			"one apart":       {Una: una, Nxt: una + 50, High: una, Sacked: blocks(una, 1, 20, 21, 22, 23, 50)},
			"just as many":    many,
		} {
			if e := scoreboard.Check(s); e != api.OK {
				t.Errorf("Check, %s: %d", what, e)
			}
		}
	}
}

func TestMssP17_1(t *testing.T) {
	s := example(7)
	for _, mss := range []int{0, -1, 65536, math.MinInt, math.MaxInt} {
		lost(t, s, mss, 8, false, api.ErrRange)
		lost(t, s, mss, 0, false, api.ErrRange) // ahead of ErrSeq
		pipe(t, s, mss, 0, api.ErrRange)
		next(t, s, mss, false, api.Block{}, false, api.ErrRange)
		next(t, s, mss, true, api.Block{}, false, api.ErrRange)
	}
	for _, mss := range []int{1, 65535} {
		lost(t, s, mss, 7, true, api.OK)
		pipe(t, s, mss, map[int]int{1: 0, 65535: 15}[mss], api.OK) // 5 octets are more than 2
		next(t, s, mss, false, blocks(7, 0, uint32(min(mss, 10)))[0], true, api.OK)
	}
}

func TestSentP17_1(t *testing.T) {
	for _, una := range []uint32{0, 1<<32 - 60} {
		s := example(una)
		for _, n := range []int{0, 1, 100, window - 50} {
			want := example(una)
			want.Nxt += uint32(n)
			got, e := scoreboard.Sent(s, n)
			is(t, "Sent", got, e, want, api.OK)
		}
		for _, n := range []int{-1, window - 49, 1 << 32, math.MinInt, math.MaxInt} {
			got, e := scoreboard.Sent(s, n)
			is(t, "Sent", got, e, state{}, api.ErrRange)
		}
	}
}

func TestAckP17_2(t *testing.T) {
	for _, una := range []uint32{0, 1, 1<<32 - 1, 1<<32 - 15, 1<<32 - 45} {
		s := example(una)
		s.High = una + 25
		after := func(ack, high uint32, edges ...uint32) state {
			return state{Una: una + ack, Nxt: una + 50, High: una + high, Sacked: blocks(una, edges...)}
		}
		acked(t, s, una, nil, s, 0, api.OK)
		acked(t, s, una+5, nil, after(5, 25, 10, 20, 30, 40, 45, 50), 5, api.OK)
		acked(t, s, una+9, nil, after(9, 25, 10, 20, 30, 40, 45, 50), 9, api.OK)
		// A block that begins ahead of Una, or at it, goes; what was in one is not new.
		acked(t, s, una+10, nil, after(10, 25, 30, 40, 45, 50), 10, api.OK)
		acked(t, s, una+15, nil, after(15, 25, 30, 40, 45, 50), 10, api.OK)
		acked(t, s, una+20, nil, after(20, 25, 30, 40, 45, 50), 10, api.OK)
		acked(t, s, una+26, nil, after(26, 26, 30, 40, 45, 50), 16, api.OK)
		acked(t, s, una+50, nil, after(50, 50), 25, api.OK)
		for _, bad := range []uint32{51, 1000, 1 << 31, 1<<32 - 1} {
			acked(t, s, una+bad, nil, state{}, 0, api.ErrSeq)
			acked(t, s, una+bad, blocks(una, 22, 24), state{}, 0, api.ErrSeq)
		}
		// Blocks are put together with those that are there.
		acked(t, s, una, blocks(una, 22, 24), after(0, 25, 10, 20, 22, 24, 30, 40, 45, 50), 2, api.OK)
		acked(t, s, una, blocks(una, 20, 24), after(0, 25, 10, 24, 30, 40, 45, 50), 4, api.OK)
		acked(t, s, una, blocks(una, 24, 30), after(0, 25, 10, 20, 24, 40, 45, 50), 6, api.OK)
		acked(t, s, una, blocks(una, 15, 35), after(0, 25, 10, 40, 45, 50), 10, api.OK)
		acked(t, s, una, blocks(una, 1, 50), after(0, 25, 1, 50), 24, api.OK)
		acked(t, s, una, blocks(una, 12, 13), s, 0, api.OK)
		acked(t, s, una, blocks(una, 10, 20, 30, 40, 45, 50), s, 0, api.OK)
		acked(t, s, una, blocks(una, 42, 44, 2, 4, 42, 43, 4, 5), after(0, 25, 2, 5, 10, 20, 30, 40, 42, 44, 45, 50), 5, api.OK)
		// Those that do not count.
		for _, edges := range [][]uint32{{0, 5}, {0, 50}, {40, 51}, {50, 51}, {50, 50}, {22, 22}, {24, 22}, {22, 0}, {1<<32 - 1, 5}, {1<<32 - 9, 1<<32 - 2}, {60, 70}, {22, 1<<32 - 1}, {22, 22 + window}} {
			acked(t, s, una, blocks(una, edges...), s, 0, api.OK)
			acked(t, s, una, append(blocks(una, edges...), blocks(una, 22, 24)...), after(0, 25, 10, 20, 22, 24, 30, 40, 45, 50), 2, api.OK)
		}
		// They are held against the Una that is told.
		for _, edges := range [][]uint32{{5, 8}, {4, 8}, {3, 12}, {1, 5}, {1, 2}} {
			acked(t, s, una+5, blocks(una, edges...), after(5, 25, 10, 20, 30, 40, 45, 50), 5, api.OK)
		}
		acked(t, s, una+5, blocks(una, 6, 8), after(5, 25, 6, 8, 10, 20, 30, 40, 45, 50), 7, api.OK)
		acked(t, s, una+5, blocks(una, 6, 10), after(5, 25, 6, 20, 30, 40, 45, 50), 9, api.OK)
		// A block that went comes again by a new one, and is not new.
		acked(t, s, una+15, blocks(una, 16, 25), after(15, 25, 16, 25, 30, 40, 45, 50), 15, api.OK)
		// What went so, and is acknowledged later, comes newly then.
		x, _, _ := scoreboard.Ack(s, una+15, nil)
		acked(t, x, una+21, nil, after(21, 25, 30, 40, 45, 50), 6, api.OK)
	}
}

func TestWidestP17_2(t *testing.T) {
	for _, una := range []uint32{0, 1<<32 - 1, 1 << 31} {
		s := state{Una: una, Nxt: una + window, High: una}
		acked(t, s, una, blocks(una, 1, window), state{Una: una, Nxt: una + window, High: una, Sacked: blocks(una, 1, window)}, window-1, api.OK)
		acked(t, s, una+window, nil, state{Una: una + window, Nxt: una + window, High: una + window}, window, api.OK)
		acked(t, s, una, blocks(una, 1, window+1), s, 0, api.OK)
		acked(t, s, una, blocks(una, 1<<32-1, window), s, 0, api.OK)
	}
}

// Where there would be more than MaxRanges the new ones say nothing.
func TestManyP17_2(t *testing.T) {
	s := faulty(1<<32 - 9)["too many blocks"]
	una := s.Una
	s.Sacked = s.Sacked[:1024]
	acked(t, s, una, blocks(una, 3000, 3001), s, 0, api.OK)
	acked(t, s, una, blocks(una, 2048, 2050, 3000, 3001), s, 0, api.OK) // not even what needs no more
	// Where it is acknowledged at once, that counts.
	want := state{Una: una + 1, Nxt: s.Nxt, High: una + 1, Sacked: s.Sacked[1:]}
	acked(t, s, una+1, blocks(una, 3000, 3001, 4000, 4001), want, 1, api.OK)
	want.Sacked = append(slices.Clone(want.Sacked), blocks(una, 3000, 3001)...)
	acked(t, s, una+1, blocks(una, 3000, 3001), want, 2, api.OK)
	// With one that puts two together there is room for another.
	want = state{Una: una, Nxt: s.Nxt, High: una, Sacked: slices.Concat(blocks(una, 1, 4), s.Sacked[2:], blocks(una, 3000, 3001))}
	acked(t, s, una, blocks(una, 3000, 3001, 2, 3), want, 2, api.OK)
	// So many as one likes may come, if they are few together.
	var l []api.Block
	for i := range uint32(4000) {
		l = append(l, api.Block{Left: una + 4001 - i, Right: una + 4002 - i})
	}
	acked(t, s, una, l, state{Una: una, Nxt: s.Nxt, High: una, Sacked: blocks(una, 1, 4002)}, 4001-1024, api.OK)
}

func TestLostP17_3(t *testing.T) {
	s := example(1<<32 - 15)
	for _, seq := range []uint32{50, 51, 1 << 31, 1<<32 - 1} {
		lost(t, s, 10, s.Una+seq, false, api.ErrSeq)
	}
	// More than 2 * mss octets behind it.
	for mss, want := range map[int]bool{7: true, 8: false} { // 15 octets
		lost(t, s, mss, s.Una+25, want, api.OK)
	}
	for mss, want := range map[int]bool{2: true, 3: false} { // 5
		lost(t, s, mss, s.Una+42, want, api.OK)
	}
	// Three blocks, whatever they have.
	x := state{Una: 0, Nxt: 100, High: 0, Sacked: blocks(0, 10, 11, 20, 21, 30, 31)}
	for seq, want := range map[uint32]bool{0: true, 9: true, 10: false, 11: false, 19: false, 25: false, 31: false, 99: false} {
		lost(t, x, 10, seq, want, api.OK)
	}
	// What was sent again is lost all the same.
	x.High = 50
	lost(t, x, 10, 5, true, api.OK)
	// Exactly 2 * mss are not enough.
	x.Sacked = blocks(0, 10, 30)
	lost(t, x, 10, 5, false, api.OK)
	lost(t, x, 9, 5, true, api.OK)
	x.Sacked = blocks(0, 10, 31)
	lost(t, x, 10, 5, true, api.OK)
	// Those octets do not count that lie ahead of it.
	lost(t, x, 1, 40, false, api.OK)
}

func TestPipeP17_3(t *testing.T) {
	s := example(1<<32 - 15)
	for high, want := range map[uint32]int{0: 15, 1: 16, 9: 24, 10: 25, 15: 25, 20: 25, 21: 26, 30: 35, 40: 35, 42: 37, 45: 40, 50: 40} {
		s.High = s.Una + high
		pipe(t, s, 10, want, api.OK)
	}
	x := state{Una: 5, Nxt: 5 + window, High: 5}
	pipe(t, x, 10, window, api.OK)
	x.High = x.Nxt
	pipe(t, x, 10, 2*window, api.OK)
	x.Sacked = blocks(5, 1, window)
	pipe(t, x, 10, 1, api.OK)
	x.High = x.Una
	pipe(t, x, 10, 0, api.OK)
}

func TestNextP17_3(t *testing.T) {
	una := uint32(1<<32 - 15)
	s := example(una)
	for _, x := range []struct {
		high   uint32
		mss    int
		rescue bool
		want   []uint32
	}{
		{0, 10, false, []uint32{0, 10}}, {0, 4, false, []uint32{0, 4}}, {0, 65535, false, []uint32{0, 10}}, {4, 4, false, []uint32{4, 8}},
		{8, 4, false, []uint32{8, 10}}, {9, 4, false, []uint32{9, 10}}, {10, 10, false, nil}, {15, 10, false, nil}, {25, 10, false, nil},
		{0, 10, true, []uint32{0, 10}}, {10, 10, true, []uint32{20, 30}}, {15, 4, true, []uint32{20, 24}}, {20, 8, true, []uint32{20, 28}},
		{28, 10, true, []uint32{28, 30}}, {30, 10, true, []uint32{40, 45}}, {44, 10, true, []uint32{44, 45}}, {45, 10, true, nil}, {50, 10, true, nil},
		{10, 7, false, []uint32{20, 27}}, {10, 2, false, []uint32{20, 22}}, {30, 2, false, []uint32{40, 42}}, {30, 3, false, nil},
	} {
		s.High = una + x.high
		if x.want == nil {
			next(t, s, x.mss, x.rescue, api.Block{}, false, api.OK)
			continue
		}
		next(t, s, x.mss, x.rescue, blocks(una, x.want...)[0], true, api.OK)
	}
	// Behind the last block nothing is sent again; without one neither.
	x := state{Una: 0, Nxt: 100, High: 0, Sacked: blocks(0, 1, 99)}
	next(t, x, 10, true, blocks(0, 0, 1)[0], true, api.OK)
	x.High = 1
	next(t, x, 10, true, api.Block{}, false, api.OK)
	x = state{Una: 0, Nxt: 100, High: 0}
	next(t, x, 10, true, api.Block{}, false, api.OK)
	next(t, x, 10, false, api.Block{}, false, api.OK)
}

func TestResentP17_4(t *testing.T) {
	s := example(1<<32 - 15)
	s.High = s.Una + 20
	for _, right := range []uint32{20, 21, 35, 50} {
		want := s
		want.High = s.Una + right
		got, e := scoreboard.Resent(s, s.Una+right)
		is(t, "Resent", got, e, want, api.OK)
	}
	for _, right := range []uint32{0, 19, 51, 1 << 31, 1<<32 - 1} {
		got, e := scoreboard.Resent(s, s.Una+right)
		is(t, "Resent", got, e, state{}, api.ErrSeq)
	}
	got, e := scoreboard.Timeout(s)
	is(t, "Timeout", got, e, state{Una: s.Una, Nxt: s.Nxt, High: s.Una}, api.OK)
	x := state{Una: 7, Nxt: 9, High: 9}
	got, e = scoreboard.Timeout(x)
	is(t, "Timeout", got, e, state{Una: 7, Nxt: 9, High: 7}, api.OK)
}

// model knows of each octet, from its Una on, what it is.
type model struct {
	una, nxt, high int
	come           map[int]bool
}

func modelOf(s state, una int) *model {
	m := &model{una: una, nxt: una + int(s.Nxt-s.Una), high: una + int(s.High-s.Una), come: map[int]bool{}}
	for _, b := range s.Sacked {
		for i := b.Left; i != b.Right; i++ {
			m.come[una+int(i-s.Una)] = true
		}
	}
	return m
}

// behind tells how many blocks begin behind an octet, and what they have.
func (m *model) behind(at int) (int, int) {
	n, octets := 0, 0
	for i := at + 1; i < m.nxt; i++ {
		if m.come[i] && !m.come[i-1] {
			n++
		}
		if m.come[i] {
			octets++
		}
	}
	return n, octets
}

func (m *model) lost(mss, at int) bool {
	n, octets := m.behind(at)
	return !m.come[at] && (n >= 3 || octets > 2*mss)
}

func (m *model) pipe(mss int) int {
	n := 0
	for i := m.una; i < m.nxt; i++ {
		if m.come[i] {
			continue
		}
		if !m.lost(mss, i) {
			n++
		}
		if i < m.high {
			n++
		}
	}
	return n
}

func (m *model) next(mss int, rescue bool) (int, int, bool) {
	for i := m.high; i < m.nxt; i++ {
		if n, _ := m.behind(i); m.come[i] || n == 0 || !rescue && !m.lost(mss, i) {
			continue
		}
		j := i
		for !m.come[j] && j < i+mss {
			j++
		}
		return i, j, true
	}
	return 0, 0, false
}

// ack lays what was told octet by octet, and tells how many are new.
func (m *model) ack(ack int, l [][2]int) int {
	before := map[int]bool{}
	for i := range m.come {
		before[i] = true
	}
	for i := range ack - m.una {
		at := m.una + i
		if m.come[at] && !m.come[at-1] || at == m.una && m.come[at] { // the block that begins here goes
			for j := at; m.come[j]; j++ {
				delete(m.come, j)
			}
		}
	}
	for j := ack; m.come[j]; j++ {
		delete(m.come, j)
	}
	newly := 0
	for i := m.una; i < ack; i++ {
		if !before[i] {
			newly++
		}
	}
	m.una, m.high = ack, max(m.high, ack)
	for _, b := range l {
		if b[0] <= ack || b[0] >= b[1] || b[1] > m.nxt {
			continue
		}
		for i := b[0]; i < b[1]; i++ {
			if !m.come[i] && !before[i] {
				newly++
			}
			m.come[i] = true
		}
	}
	return newly
}

func (m *model) state(first uint32) state {
	s := state{Una: first + uint32(m.una), Nxt: first + uint32(m.nxt), High: first + uint32(m.high)}
	for i := m.una; i < m.nxt; i++ {
		if m.come[i] && !m.come[i-1] {
			s.Sacked = append(s.Sacked, api.Block{Left: first + uint32(i)})
		}
		if m.come[i] {
			s.Sacked[len(s.Sacked)-1].Right = first + uint32(i+1)
		}
	}
	return s
}

func TestModelP17_3(t *testing.T) {
	resent, rescued := 0, 0
	for seed := range 400 {
		r := rand.New(rand.NewSource(int64(seed)))
		first := uint32(-r.Intn(300))
		m := &model{come: map[int]bool{}}
		s := scoreboard.New(first)
		for range 60 {
			mss := 1 + r.Intn(12)
			var e api.Errno
			switch r.Intn(5) {
			case 0:
				n := r.Intn(40)
				if m.nxt-m.una > 120 {
					n = 0
				}
				m.nxt += n
				s, e = scoreboard.Sent(s, n)
			case 1, 2:
				ack := m.una
				if r.Intn(2) == 0 {
					ack += r.Intn(m.nxt - m.una + 1)
				}
				var l [][2]int
				var b []api.Block
				for range r.Intn(4) {
					left := m.una - 3 + r.Intn(m.nxt-m.una+6)
					right := left - 1 + r.Intn(12)
					l = append(l, [2]int{left, right})
					b = append(b, api.Block{Left: first + uint32(left), Right: first + uint32(right)})
				}
				want := m.ack(ack, l)
				var n int
				s, n, e = scoreboard.Ack(s, first+uint32(ack), b)
				if n != want {
					t.Fatalf("seed %d: %d came newly; want %d", seed, n, want)
				}
			case 3:
				at := m.high + r.Intn(m.nxt-m.high+1)
				m.high = at
				s, e = scoreboard.Resent(s, first+uint32(at))
			case 4:
				if r.Intn(8) == 0 {
					m.high, m.come = m.una, map[int]bool{}
					s, e = scoreboard.Timeout(s)
				}
			}
			is(t, "the state that follows", s, e, m.state(first), api.OK)
			pipe(t, s, mss, m.pipe(mss), api.OK)
			if p := m.pipe(mss); p > 2*(m.nxt-m.una) || len(s.Sacked) == 0 && m.high == m.una && p != m.nxt-m.una {
				t.Fatal("P17.6: Pipe:", p)
			}
			for i := m.una; i < m.nxt; i++ {
				lost(t, s, mss, first+uint32(i), m.lost(mss, i), api.OK)
			}
			for _, rescue := range []bool{false, true} {
				left, right, ok := m.next(mss, rescue)
				want := api.Block{}
				if ok {
					want = api.Block{Left: first + uint32(left), Right: first + uint32(right)}
					resent++
					if rescue && !m.lost(mss, left) {
						rescued++
					}
				}
				next(t, s, mss, rescue, want, ok, api.OK)
			}
			if t.Failed() {
				t.Fatalf("seed %d: %+v", seed, s)
			}
		}
	}
	if resent < 1000 || rescued < 1000 {
		t.Error("too few were to be sent again:", resent, rescued)
	}
}

// States that no call made: what has come is never lost, nor sent again.
func TestNeverP17_5(t *testing.T) {
	for seed := range 3000 {
		r := rand.New(rand.NewSource(int64(seed)))
		s := state{Una: uint32(-r.Intn(60)), Nxt: 0}
		at := uint32(0)
		for range r.Intn(8) {
			left := at + 1 + uint32(r.Intn(9))
			at = left + 1 + uint32(r.Intn(9))
			s.Sacked = append(s.Sacked, blocks(s.Una, left, at)...)
		}
		s.Nxt = s.Una + at + uint32(r.Intn(20))
		s.High = s.Una + uint32(r.Intn(int(s.Nxt-s.Una)+1))
		mss := 1 + r.Intn(15)
		m := modelOf(s, 0)
		pipe(t, s, mss, m.pipe(mss), api.OK)
		for i := range m.nxt {
			if isLost, _ := scoreboard.Lost(s, mss, s.Una+uint32(i)); isLost && m.come[i] || isLost != m.lost(mss, i) {
				t.Fatalf("seed %d: Lost(%d) = %v", seed, i, isLost)
			}
		}
		for _, rescue := range []bool{false, true} {
			b, ok, _ := scoreboard.Next(s, mss, rescue)
			left, right, want := m.next(mss, rescue)
			if ok != want || ok && b != (api.Block{Left: s.Una + uint32(left), Right: s.Una + uint32(right)}) {
				t.Fatalf("seed %d: Next = %v, %v", seed, b, ok)
			}
			for i := b.Left; i != b.Right; i++ {
				if m.come[int(i-s.Una)] {
					t.Fatalf("seed %d: %d is sent again", seed, i)
				}
			}
		}
	}
}

func TestMemoryP17_8(t *testing.T) {
	for what, call := range map[string]func(s state) state{
		"Sent":   func(s state) state { x, _ := scoreboard.Sent(s, 5); return x },
		"Ack":    func(s state) state { x, _, _ := scoreboard.Ack(s, s.Una, nil); return x },
		"Resent": func(s state) state { x, _ := scoreboard.Resent(s, s.Nxt); return x },
	} {
		s := example(7)
		x := call(s)
		for i := range x.Sacked[:cap(x.Sacked)] {
			x.Sacked[:cap(x.Sacked)][i] = api.Block{}
		}
		if !same(s, example(7)) {
			t.Errorf("an answer of %s shares memory with its argument", what)
		}
		y := call(s)
		clear(s.Sacked)
		if !slices.Equal(y.Sacked, example(7).Sacked) {
			t.Errorf("an argument of %s shares memory with its answer", what)
		}
	}
	s := example(7)
	l := blocks(7, 42, 43, 2, 3, 22, 24)
	scoreboard.Ack(s, 7, l)
	if !same(s, example(7)) || !slices.Equal(l, blocks(7, 42, 43, 2, 3, 22, 24)) {
		t.Error("an argument was changed")
	}
}

func FuzzBoard(f *testing.F) {
	f.Add(uint32(0), uint32(50), uint32(0), uint32(10), uint32(20), uint32(30), uint32(40), 10, uint32(5))
	f.Fuzz(func(t *testing.T, una, nxt, high, a, b, c, d uint32, mss int, ack uint32) {
		s := state{Una: una, Nxt: nxt, High: high, Sacked: []api.Block{{Left: a, Right: b}, {Left: c, Right: d}}}
		scoreboard.Lost(s, mss, ack)
		scoreboard.Pipe(s, mss)
		scoreboard.Next(s, mss, true)
		for _, x := range []state{s, {Una: una, Nxt: nxt, High: high}} {
			if y, n, e := scoreboard.Ack(x, ack, s.Sacked); e == api.OK && (scoreboard.Check(y) != api.OK || n < 0 || n > int(nxt-una)) {
				t.Fatal(y, n)
			}
		}
	})
}
