package recvbuf_test

import (
	"bytes"
	"math"
	"math/rand"
	"slices"
	"strings"
	"testing"

	"stopcock/api"
	"stopcock/recvbuf"
)

func buffer(t *testing.T, size int, next uint32) *recvbuf.Buffer {
	t.Helper()
	b, e := recvbuf.New(size, next)
	if b == nil || e != api.OK {
		t.Fatalf("New(%d, %d) = %v, %d", size, next, b, e)
	}
	return b
}

func insert(t *testing.T, b *recvbuf.Buffer, seq uint32, data string, want int, blocks ...api.Block) {
	t.Helper()
	if n, e := b.Insert(seq, []byte(data)); n != want || e != api.OK {
		t.Errorf("Insert(%d, %q) = %d, %d; want %d", seq, data, n, e, want)
	}
	told(t, b, blocks...)
}

func refused(t *testing.T, b *recvbuf.Buffer, seq uint32, data string, want api.Errno) {
	t.Helper()
	next, ready, window, blocks := b.Next(), b.Ready(), b.Window(), b.Blocks()
	if n, e := b.Insert(seq, []byte(data)); n != 0 || e != want {
		t.Errorf("Insert(%d, %d octets) = %d, %d; want %d", seq, len(data), n, e, want)
	}
	held(t, b, next, ready, window)
	told(t, b, blocks...)
}

func read(t *testing.T, b *recvbuf.Buffer, n int, want string, fault api.Errno) {
	t.Helper()
	if got, e := b.Read(n); string(got) != want || e != fault {
		t.Errorf("Read(%d) = %q, %d; want %q, %d", n, got, e, want, fault)
	}
}

func grow(t *testing.T, b *recvbuf.Buffer, size int, want api.Errno) {
	t.Helper()
	if e := b.Grow(size); e != want {
		t.Errorf("Grow(%d) = %d; want %d", size, e, want)
	}
}

func held(t *testing.T, b *recvbuf.Buffer, next uint32, ready, window int) {
	t.Helper()
	if b.Next() != next || b.Ready() != ready || b.Window() != window {
		t.Errorf("Next, Ready, Window = %d, %d, %d; want %d, %d, %d", b.Next(), b.Ready(), b.Window(), next, ready, window)
	}
}

func told(t *testing.T, b *recvbuf.Buffer, want ...api.Block) {
	t.Helper()
	if got := b.Blocks(); !slices.Equal(got, want) {
		t.Errorf("Blocks = %v; want %v", got, want)
	}
}

func TestExample(t *testing.T) {
	b := buffer(t, 10, 0)
	insert(t, b, 2, "cd", 0, api.Block{Left: 2, Right: 4})
	insert(t, b, 5, "f", 0, api.Block{Left: 5, Right: 6}, api.Block{Left: 2, Right: 4})
	insert(t, b, 0, "ab", 4, api.Block{Left: 5, Right: 6})
	read(t, b, 9, "abcd", api.OK)
}

func TestNewP16_1(t *testing.T) {
	for _, n := range []int{0, -1, 1<<20 + 1, math.MinInt, math.MaxInt} {
		if b, e := recvbuf.New(n, 5); b != nil || e != api.ErrRange {
			t.Errorf("New(%d) = %v, %d; want ErrRange", n, b, e)
		}
	}
	for _, n := range []int{1, 2, 1<<20 - 1, 1 << 20} {
		for _, next := range []uint32{0, 1, 1<<32 - 1} {
			b := buffer(t, n, next)
			held(t, b, next, 0, n)
			told(t, b)
			read(t, b, 5, "", api.OK)
		}
	}
}

func TestNotMade(t *testing.T) {
	for _, b := range []*recvbuf.Buffer{nil, {}} {
		refused(t, b, 0, "", api.ErrMade)
		refused(t, b, 0, "x", api.ErrMade)
		refused(t, b, 0, strings.Repeat("x", 65536), api.ErrMade)
		read(t, b, 1, "", api.ErrMade)
		read(t, b, -1, "", api.ErrMade)
		grow(t, b, 1, api.ErrMade)
		grow(t, b, 0, api.ErrMade)
		held(t, b, 0, 0, 0)
		told(t, b)
	}
}

func TestInOrderP16_1(t *testing.T) {
	b := buffer(t, 6, 1<<32-2)
	insert(t, b, 1<<32-2, "", 0)
	insert(t, b, 1<<32-2, "abc", 3)
	held(t, b, 1, 3, 3)
	insert(t, b, 1<<32-2, "xyz", 0) // there already
	insert(t, b, 1<<32-1, "yzd", 1) // some of it is
	held(t, b, 2, 4, 2)
	insert(t, b, 2, "efghij", 2) // some of it is behind the window
	held(t, b, 4, 6, 0)
	insert(t, b, 4, "g", 0) // no window
	insert(t, b, 3, "fg", 0)
	insert(t, b, 5, "g", 0)
	held(t, b, 4, 6, 0)
	read(t, b, 2, "ab", api.OK)
	held(t, b, 4, 4, 2)
	insert(t, b, 4, "ghi", 2)
	read(t, b, 99, "cdefgh", api.OK)
	held(t, b, 6, 0, 6)
}

// What lies outside the window is not kept.
func TestWindowP16_1(t *testing.T) {
	b := buffer(t, 4, 100)
	insert(t, b, 96, "wxyz", 0)
	insert(t, b, 99, "z", 0)
	insert(t, b, 104, "e", 0)
	insert(t, b, 104, strings.Repeat("e", 65535), 0)
	insert(t, b, 1<<32+100-65535, strings.Repeat("z", 65535), 0)
	insert(t, b, 100+1<<31, "q", 0)
	held(t, b, 100, 0, 4)
	insert(t, b, 103, "def", 0, api.Block{Left: 103, Right: 104})
	insert(t, b, 99, "zab", 2, api.Block{Left: 103, Right: 104})
	held(t, b, 102, 2, 2)
	insert(t, b, 90, "--------------------", 2) // over both edges
	held(t, b, 104, 4, 0)
	read(t, b, 9, "ab-d", api.OK)
	b = buffer(t, 4, 5) // from before 0 on
	insert(t, b, 1<<32-3, "01234567890abcd", 4)
	read(t, b, 9, "890a", api.OK)
}

func TestLongP16_1(t *testing.T) {
	b := buffer(t, 1<<20, 0)
	refused(t, b, 0, strings.Repeat("x", 65536), api.ErrLong)
	refused(t, b, 1<<31, strings.Repeat("x", 65536), api.ErrLong)
	insert(t, b, 0, strings.Repeat("x", 65535), 65535)
	held(t, b, 65535, 65535, 1<<20-65535)
	// The greatest window, from its end on.
	b = buffer(t, 1<<20, 1<<32-7)
	for i := 15; i > 0; i-- {
		b.Insert(uint32(i<<16-7), bytes.Repeat([]byte{byte(i)}, 65535))
		b.Insert(uint32(i<<16-7+65535), []byte{byte(i)})
	}
	told(t, b, api.Block{Left: 1<<16 - 7, Right: 1<<20 - 7})
	b.Insert(1<<32-7, make([]byte, 65535))
	if n, e := b.Insert(1<<16-8, make([]byte, 1)); n != 15<<16+1 || e != api.OK {
		t.Error("Insert:", n, e)
	}
	held(t, b, 1<<20-7, 1<<20, 0)
	got, e := b.Read(1 << 20)
	for i, x := range got {
		if x != byte(i>>16) {
			t.Fatalf("octet %d is %d", i, x)
		}
	}
	if len(got) != 1<<20 || e != api.OK {
		t.Error("Read:", len(got), e)
	}
}

// What is there stays.
func TestStaysP16_3(t *testing.T) {
	b := buffer(t, 20, 0)
	insert(t, b, 3, "def", 0, api.Block{Left: 3, Right: 6})
	insert(t, b, 8, "ij", 0, api.Block{Left: 8, Right: 10}, api.Block{Left: 3, Right: 6})
	insert(t, b, 2, "CDEFGHIJK", 0, api.Block{Left: 2, Right: 11})
	insert(t, b, 4, "#####", 0, api.Block{Left: 2, Right: 11})
	insert(t, b, 0, "01234567890123", 14)
	read(t, b, 20, "01CdefGHijK123", api.OK)
	// Parts that begin or end in one that is there.
	b = buffer(t, 20, 0)
	insert(t, b, 5, "fgh", 0, api.Block{Left: 5, Right: 8})
	insert(t, b, 3, "DEF", 0, api.Block{Left: 3, Right: 8})
	insert(t, b, 7, "HI", 0, api.Block{Left: 3, Right: 9})
	insert(t, b, 9, "j", 0, api.Block{Left: 3, Right: 10})
	insert(t, b, 2, "c", 0, api.Block{Left: 2, Right: 10})
	insert(t, b, 0, "ab", 10)
	read(t, b, 20, "abcDEfghIj", api.OK)
}

func TestReadP16_2(t *testing.T) {
	b := buffer(t, 5, 0)
	insert(t, b, 0, "abc", 3)
	read(t, b, -1, "", api.ErrRange)
	read(t, b, math.MinInt, "", api.ErrRange)
	read(t, b, 0, "", api.OK)
	held(t, b, 3, 3, 2)
	insert(t, b, 4, "e", 0, api.Block{Left: 4, Right: 5}) // what is not ready isn't read
	read(t, b, 1, "a", api.OK)
	held(t, b, 3, 2, 3)
	read(t, b, math.MaxInt, "bc", api.OK)
	held(t, b, 3, 0, 5)
	read(t, b, math.MaxInt, "", api.OK)
	insert(t, b, 3, "d", 2)
	read(t, b, 2, "de", api.OK)
}

func TestGrowP16_2(t *testing.T) {
	b := buffer(t, 5, 0)
	insert(t, b, 0, "abc", 3)
	read(t, b, 2, "ab", api.OK)
	insert(t, b, 4, "efg", 0, api.Block{Left: 4, Right: 7})
	for _, n := range []int{4, 0, -1, 1<<20 + 1, math.MinInt, math.MaxInt} {
		grow(t, b, n, api.ErrRange)
		held(t, b, 3, 1, 4)
	}
	grow(t, b, 5, api.OK)
	held(t, b, 3, 1, 4)
	grow(t, b, 8, api.OK)
	held(t, b, 3, 1, 7)
	grow(t, b, 7, api.ErrRange)
	insert(t, b, 8, "ijk", 0, api.Block{Left: 8, Right: 10}, api.Block{Left: 4, Right: 7})
	insert(t, b, 3, "d", 4, api.Block{Left: 8, Right: 10})
	insert(t, b, 7, "h", 3)
	held(t, b, 10, 8, 0)
	grow(t, b, 1<<20, api.OK)
	held(t, b, 10, 8, 1<<20-8)
	insert(t, b, 10, "kl", 2)
	read(t, b, 99, "cdefghijkl", api.OK)
	grow(t, b, 1<<20, api.OK)
	grow(t, b, 1<<20-1, api.ErrRange)
}

// Those come first to which an octet was added last.
func TestBlocksP16_2(t *testing.T) {
	b := buffer(t, 100, 0)
	var l []api.Block
	block := func(left, right uint32) api.Block { return api.Block{Left: left, Right: right} }
	for i := range uint32(6) {
		l = append([]api.Block{block(10*i+10, 10*i+12)}, l...)
		insert(t, b, 10*i+10, "xx", 0, l[:min(4, len(l))]...)
	}
	// One that kept none adds none.
	insert(t, b, 10, "yy", 0, l[:4]...)
	insert(t, b, 11, "y", 0, l[:4]...)
	insert(t, b, 10, "", 0, l[:4]...)
	// An octet behind, ahead, between.
	insert(t, b, 12, "z", 0, block(10, 13), block(60, 62), block(50, 52), block(40, 42))
	insert(t, b, 29, "zzz", 0, block(29, 32), block(10, 13), block(60, 62), block(50, 52))
	insert(t, b, 42, "zzzzzzzzz", 0, block(40, 52), block(29, 32), block(10, 13), block(60, 62))
	insert(t, b, 12, "zzzzzzzzz", 0, block(10, 22), block(40, 52), block(29, 32), block(60, 62))
	// Those that are ready are none any more; the others stay as they were.
	insert(t, b, 0, strings.Repeat("a", 10), 22, block(40, 52), block(29, 32), block(60, 62))
	insert(t, b, 22, strings.Repeat("a", 50), 50)
}

func TestFullP16_1(t *testing.T) {
	b := buffer(t, 1<<20, 1<<32-100)
	seq := func(i int) uint32 { return uint32(1<<32 - 100 + i) }
	behind := func(left, right int) []api.Block {
		return append([]api.Block{{Left: seq(left), Right: seq(right)}}, b.Blocks()[:3]...)
	}
	for i := range 1024 {
		if n, e := b.Insert(seq(3*i+3), []byte("x")); n != 0 || e != api.OK {
			t.Fatal("Insert:", i, n, e)
		}
	}
	for _, at := range []int{1, 4000, 1<<20 - 1} {
		refused(t, b, seq(at), "x", api.ErrFull)
		refused(t, b, seq(at), strings.Repeat("x", 65536), api.ErrLong) // ahead of ErrFull
	}
	refused(t, b, seq(1<<20-1), "xyz", api.ErrFull)
	// What makes no more parts is kept.
	insert(t, b, seq(1<<20), "x", 0, b.Blocks()...)
	insert(t, b, seq(4000), "", 0, b.Blocks()...)
	insert(t, b, seq(6), "y", 0, b.Blocks()...)
	insert(t, b, seq(-1), "y", 0, b.Blocks()...)
	insert(t, b, seq(7), "b", 0, behind(6, 8)...)
	refused(t, b, seq(4000), "x", api.ErrFull)
	insert(t, b, seq(0), "a", 1, b.Blocks()...) // at Next
	refused(t, b, seq(4000), "x", api.ErrFull)
	insert(t, b, seq(1), "aa", 3, b.Blocks()...) // one part fewer
	insert(t, b, seq(4000), "z", 0, behind(4000, 4001)...)
	refused(t, b, seq(4002), "x", api.ErrFull)
	insert(t, b, seq(10), "cc", 0, behind(9, 13)...)
	insert(t, b, seq(4002), "x", 0, behind(4002, 4003)...)
	insert(t, b, seq(4), strings.Repeat("q", 5000), 5000)
	held(t, b, seq(5004), 5004, 1<<20-5004)
}

// model keeps each octet by its place from the beginning on.
type model struct {
	size, read, next int
	octets           map[int]byte
	added            map[int]int // by which Insert
	inserts          int
}

func (m *model) insert(at int, data []byte) int {
	edge := m.read + m.size
	m.inserts++
	for i, x := range data {
		if _, there := m.octets[at+i]; !there && at+i >= m.next && at+i < edge {
			m.octets[at+i], m.added[at+i] = x, m.inserts
		}
	}
	n := 0
	for ; ; n++ {
		if _, there := m.octets[m.next]; !there {
			return n
		}
		m.next++
	}
}

// parts gives those out of order by place.
func (m *model) parts(first uint32) []api.Block {
	type part struct {
		api.Block
		at int
	}
	var l []part
	for i := m.next; i < m.read+m.size; i++ {
		if _, there := m.octets[i]; !there {
			continue
		}
		seq := first + uint32(i)
		if _, before := m.octets[i-1]; !before {
			l = append(l, part{Block: api.Block{Left: seq}})
		}
		p := &l[len(l)-1]
		p.Right, p.at = seq+1, max(p.at, m.added[i])
	}
	slices.SortStableFunc(l, func(a, b part) int { return b.at - a.at })
	var out []api.Block
	for _, p := range l {
		out = append(out, p.Block)
	}
	return out
}

func TestModelP16_3(t *testing.T) {
	most, ready := 0, 0
	for seed := range 300 {
		r := rand.New(rand.NewSource(int64(seed)))
		first := uint32(-r.Intn(300))
		m := &model{size: 1 + r.Intn(60), octets: map[int]byte{}, added: map[int]int{}}
		b := buffer(t, m.size, first)
		for range 200 {
			switch r.Intn(8) {
			case 0, 1:
				n := r.Intn(20)
				var want []byte
				for i := m.read; i < min(m.next, m.read+n); i++ {
					want = append(want, m.octets[i])
				}
				m.read += len(want)
				read(t, b, n, string(want), api.OK)
			case 2:
				if r.Intn(5) == 0 {
					m.size += r.Intn(10)
					grow(t, b, m.size, api.OK)
				}
			default:
				data := make([]byte, r.Intn(12))
				r.Read(data)
				at := m.next + r.Intn(m.size+20) - 12
				want := m.insert(at, data)
				if n, e := b.Insert(first+uint32(at), data); n != want || e != api.OK {
					t.Fatalf("seed %d: Insert(%d, %q) = %d, %d; want %d", seed, at, data, n, e, want)
				}
				if want > 0 {
					ready++
				}
			}
			held(t, b, first+uint32(m.next), m.next-m.read, m.size-(m.next-m.read))
			l := m.parts(first)
			most = max(most, len(l))
			told(t, b, l[:min(4, len(l))]...)
			if t.Failed() {
				t.Fatal("seed", seed)
			}
		}
	}
	if most < 6 || ready < 1000 {
		t.Error("too few parts, or octets that became ready:", most, ready)
	}
}

// A block's octets are all there; those beside it are not; none touches another, or Next.
func TestBlocksP16_4(t *testing.T) {
	for seed := range 200 {
		r := rand.New(rand.NewSource(int64(seed)))
		first := uint32(1<<32 - 30)
		b := buffer(t, 60, first)
		there := map[uint32]bool{}
		for range 60 {
			at, n := first+uint32(1+r.Intn(59)), 1+r.Intn(4)
			b.Insert(at, make([]byte, n))
			for i := range uint32(n) {
				if at+i-first < 60 {
					there[at+i] = true
				}
			}
			seen := map[uint32]bool{}
			l := b.Blocks()
			for _, x := range l {
				if x.Left == x.Right || there[x.Left-1] || there[x.Right] || x.Left == b.Next() {
					t.Fatalf("seed %d: block %v", seed, x)
				}
				for i := x.Left; i != x.Right; i++ {
					if !there[i] || seen[i] {
						t.Fatalf("seed %d: octet %d of block %v is not there, or twice", seed, i, x)
					}
					seen[i] = true
				}
			}
			if len(l) > 4 || len(l) < 4 && len(seen) != len(there) {
				t.Fatalf("seed %d: %d blocks with %d octets of %d", seed, len(l), len(seen), len(there))
			}
		}
	}
}

func TestMemoryP16_5(t *testing.T) {
	b := buffer(t, 8, 0)
	data := []byte("cdef")
	b.Insert(2, data)
	if string(data) != "cdef" {
		t.Error("an argument was changed:", data)
	}
	clear(data)
	l := b.Blocks()
	for i := range l[:cap(l)] {
		l[:cap(l)][i] = api.Block{}
	}
	told(t, b, api.Block{Left: 2, Right: 6})
	insert(t, b, 0, "ab", 6)
	x, _ := b.Read(3)
	for i := range x[:cap(x)] {
		x[:cap(x)][i] = '!'
	}
	insert(t, b, 6, "ghijk", 5)
	read(t, b, 9, "defghijk", api.OK)
	other := buffer(t, 8, 0)
	insert(t, other, 0, "zz", 2)
	read(t, b, 9, "", api.OK)
}

func FuzzBuffer(f *testing.F) {
	f.Add([]byte{2, 2, 5, 1, 0, 2, 200, 3})
	f.Fuzz(func(t *testing.T, script []byte) {
		m := &model{size: 30, octets: map[int]byte{}, added: map[int]int{}}
		b := buffer(t, 30, 1<<32-20)
		first := uint32(1<<32 - 20)
		for i := byte(0); len(script) >= 2; script = script[2:] {
			if script[0] >= 192 {
				got, _ := b.Read(int(script[1]))
				for j, x := range got {
					if m.octets[m.read+j] != x {
						t.Fatal("another octet was read")
					}
				}
				m.read += len(got)
			} else {
				at := m.next + int(script[0]%64) - 16
				data := bytes.Repeat([]byte{i}, int(script[1]%32))
				want := m.insert(at, data)
				if n, e := b.Insert(first+uint32(at), data); n != want || e != api.OK {
					t.Fatal(n, e, want)
				}
			}
			i++
			held(t, b, first+uint32(m.next), m.next-m.read, m.size-(m.next-m.read))
			l := m.parts(first)
			told(t, b, l[:min(4, len(l))]...)
		}
	})
}
