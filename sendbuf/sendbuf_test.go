package sendbuf_test

import (
	"bytes"
	"math"
	"math/rand"
	"strings"
	"testing"

	"stopcock/api"
	"stopcock/sendbuf"
)

func buffer(t *testing.T, size int, first uint32) *sendbuf.Buffer {
	t.Helper()
	b, e := sendbuf.New(size, first)
	if b == nil || e != api.OK {
		t.Fatalf("New(%d, %d) = %v, %d", size, first, b, e)
	}
	return b
}

func write(t *testing.T, b *sendbuf.Buffer, data string, want int, fault api.Errno) {
	t.Helper()
	if n, e := b.Write([]byte(data)); n != want || e != fault {
		t.Errorf("Write(%q) = %d, %d; want %d, %d", data, n, e, want, fault)
	}
}

func slice(t *testing.T, b *sendbuf.Buffer, seq uint32, n int, want string, fault api.Errno) {
	t.Helper()
	if got, e := b.Slice(seq, n); string(got) != want || e != fault {
		t.Errorf("Slice(%d, %d) = %q, %d; want %q, %d", seq, n, got, e, want, fault)
	}
}

func ack(t *testing.T, b *sendbuf.Buffer, seq uint32, want int, fault api.Errno) {
	t.Helper()
	if n, e := b.Ack(seq); n != want || e != fault {
		t.Errorf("Ack(%d) = %d, %d; want %d, %d", seq, n, e, want, fault)
	}
}

func held(t *testing.T, b *sendbuf.Buffer, una, end uint32, room int) {
	t.Helper()
	if b.Una() != una || b.End() != end || b.Room() != room {
		t.Errorf("Una, End, Room = %d, %d, %d; want %d, %d, %d", b.Una(), b.End(), b.Room(), una, end, room)
	}
}

func TestExample(t *testing.T) {
	b := buffer(t, 4, 1<<32-1)
	write(t, b, "abcde", 4, api.OK)
	slice(t, b, 0, 2, "bc", api.OK)
	ack(t, b, 1, 2, api.OK)
	held(t, b, 1, 3, 2)
}

// steps are how far numbers may lie apart.
var steps = []uint32{0, 1, 2, 1000, 1<<16 - 1, 1 << 16, 1 << 30, 1<<31 - 2, 1<<31 - 1, 1 << 31, 1<<31 + 1, 1<<32 - 1000, 1<<32 - 2, 1<<32 - 1}

func TestLessP15_1(t *testing.T) {
	for _, b := range steps {
		for _, x := range steps {
			a := b + x
			want := x >= 1<<31
			if got := sendbuf.Less(a, b); got != want {
				t.Errorf("Less(%d, %d) = %v", a, b, got)
			}
			greater := a
			if want {
				greater = b
			}
			if got := sendbuf.Max(a, b); got != greater {
				t.Errorf("Max(%d, %d) = %d; want %d", a, b, got, greater)
			}
		}
	}
	for _, x := range []struct {
		a, b uint32
		less bool
		max  uint32
	}{
		{1, 2, true, 2}, {2, 1, false, 2}, {5, 5, false, 5}, {1<<32 - 1, 0, true, 0}, {0, 1<<32 - 1, false, 0},
		{0, 1 << 31, true, 1 << 31}, {1 << 31, 0, true, 0}, {1<<31 - 1, 0, false, 1<<31 - 1}, {1<<31 + 1, 0, true, 0},
	} {
		if sendbuf.Less(x.a, x.b) != x.less || sendbuf.Max(x.a, x.b) != x.max {
			t.Errorf("Less, Max(%d, %d) = %v, %d", x.a, x.b, sendbuf.Less(x.a, x.b), sendbuf.Max(x.a, x.b))
		}
	}
}

func TestWithinP15_1(t *testing.T) {
	for _, left := range steps {
		for _, wide := range steps {
			for _, x := range steps {
				if got := sendbuf.Within(left+x, left, left+wide); got != (x < wide) {
					t.Errorf("Within(%d, %d, %d) = %v", left+x, left, left+wide, got)
				}
			}
		}
	}
	for _, x := range []struct {
		seq, left, right uint32
		in               bool
	}{
		{5, 5, 6, true}, {6, 5, 6, false}, {4, 5, 6, false}, {5, 5, 5, false}, {0, 1<<32 - 1, 1, true},
		{1<<32 - 1, 1<<32 - 1, 1, true}, {1, 1<<32 - 1, 1, false}, {3, 5, 4, true}, {4, 5, 4, false},
	} {
		if got := sendbuf.Within(x.seq, x.left, x.right); got != x.in {
			t.Errorf("Within(%d, %d, %d) = %v", x.seq, x.left, x.right, got)
		}
	}
}

func TestNewP15_2(t *testing.T) {
	for _, n := range []int{0, -1, 1<<20 + 1, math.MinInt, math.MaxInt} {
		if b, e := sendbuf.New(n, 5); b != nil || e != api.ErrRange {
			t.Errorf("New(%d) = %v, %d; want ErrRange", n, b, e)
		}
	}
	for _, n := range []int{1, 2, 1<<20 - 1, 1 << 20} {
		for _, first := range []uint32{0, 1, 1<<32 - 1} {
			held(t, buffer(t, n, first), first, first, n)
		}
	}
}

func TestNotMade(t *testing.T) {
	for _, b := range []*sendbuf.Buffer{nil, {}} {
		write(t, b, "", 0, api.ErrMade)
		write(t, b, "x", 0, api.ErrMade)
		slice(t, b, 0, 0, "", api.ErrMade)
		slice(t, b, 9, -1, "", api.ErrMade)
		ack(t, b, 0, 0, api.ErrMade)
		ack(t, b, 9, 0, api.ErrMade)
		held(t, b, 0, 0, 0)
	}
}

func TestWriteP15_2(t *testing.T) {
	b := buffer(t, 5, 10)
	write(t, b, "", 0, api.OK)
	write(t, b, "abc", 3, api.OK)
	held(t, b, 10, 13, 2)
	write(t, b, "defgh", 2, api.OK)
	held(t, b, 10, 15, 0)
	write(t, b, "x", 0, api.ErrWait)
	write(t, b, "", 0, api.OK) // of none 0, room or not
	if n, e := b.Write(nil); n != 0 || e != api.OK {
		t.Error("Write of nil:", n, e)
	}
	slice(t, b, 10, 99, "abcde", api.OK)
	ack(t, b, 11, 1, api.OK)
	write(t, b, "yz", 1, api.OK)
	slice(t, b, 11, 99, "bcdey", api.OK)
	held(t, b, 11, 16, 0)
	// The greatest.
	b = buffer(t, 1<<20, 1<<32-5)
	write(t, b, strings.Repeat("x", 1<<20+1), 1<<20, api.OK)
	held(t, b, 1<<32-5, 1<<20-5, 0)
	ack(t, b, 1<<20-5, 1<<20, api.OK)
	held(t, b, 1<<20-5, 1<<20-5, 1<<20)
}

func TestSliceP15_2(t *testing.T) {
	b := buffer(t, 6, 1<<32-2)
	slice(t, b, 1<<32-2, 5, "", api.OK) // of an empty one, from End on
	slice(t, b, 1<<32-1, 5, "", api.ErrSeq)
	write(t, b, "abcd", 4, api.OK)
	for i, seq := range []uint32{1<<32 - 2, 1<<32 - 1, 0, 1, 2} {
		for n := range 7 {
			slice(t, b, seq, n, "abcd"[i:min(4, i+n)], api.OK)
		}
		slice(t, b, seq, math.MaxInt, "abcd"[i:], api.OK)
		slice(t, b, seq, -1, "", api.ErrRange)
		slice(t, b, seq, math.MinInt, "", api.ErrRange)
	}
	for _, seq := range []uint32{3, 4, 1 << 31, 1<<32 - 3, 1<<32 - 4} {
		slice(t, b, seq, 1, "", api.ErrSeq)
		slice(t, b, seq, 0, "", api.ErrSeq)
		slice(t, b, seq, -1, "", api.ErrRange) // ahead of ErrSeq
	}
	held(t, b, 1<<32-2, 2, 2)
}

func TestAckP15_2(t *testing.T) {
	b := buffer(t, 6, 1<<32-2)
	write(t, b, "abcd", 4, api.OK)
	for _, seq := range []uint32{3, 4, 1 << 31, 1<<32 - 3, 1<<32 - 4} {
		ack(t, b, seq, 0, api.ErrSeq)
	}
	ack(t, b, 1<<32-2, 0, api.OK)
	held(t, b, 1<<32-2, 2, 2)
	ack(t, b, 1<<32-1, 1, api.OK)
	held(t, b, 1<<32-1, 2, 3)
	ack(t, b, 1<<32-2, 0, api.ErrSeq) // gone already
	slice(t, b, 1<<32-2, 1, "", api.ErrSeq)
	slice(t, b, 1<<32-1, 9, "bcd", api.OK)
	ack(t, b, 2, 3, api.OK)
	held(t, b, 2, 2, 6)
	ack(t, b, 2, 0, api.OK)
	ack(t, b, 3, 0, api.ErrSeq)
	write(t, b, "efghij", 6, api.OK)
	slice(t, b, 2, 9, "efghij", api.OK)
}

// What was written stands in one text; una and end say where in it.
func TestModelP15_3(t *testing.T) {
	faults := map[api.Errno]int{}
	for seed := range 300 {
		r := rand.New(rand.NewSource(int64(seed)))
		size := 1 + r.Intn(40)
		first := uint32(-r.Intn(200))
		b := buffer(t, size, first)
		var all []byte
		una := 0
		for range 300 {
			switch r.Intn(3) {
			case 0:
				data := make([]byte, r.Intn(2*size))
				r.Read(data)
				want := min(len(data), size-(len(all)-una))
				we := api.OK
				if want == 0 && len(data) > 0 {
					we = api.ErrWait
				}
				n, e := b.Write(data)
				if n != want || e != we {
					t.Fatalf("seed %d: Write of %d = %d, %d; want %d, %d", seed, len(data), n, e, want, we)
				}
				all = append(all, data[:n]...)
				faults[e]++
			case 1:
				at, n := una+r.Intn(size+6)-3, r.Intn(size+6)-2
				got, e := b.Slice(first+uint32(at), n)
				switch {
				case n < 0:
					if e != api.ErrRange || len(got) != 0 {
						t.Fatalf("seed %d: Slice(%d, %d) = %q, %d", seed, at, n, got, e)
					}
				case at < una || at > len(all):
					if e != api.ErrSeq || len(got) != 0 {
						t.Fatalf("seed %d: Slice(%d, %d) = %q, %d", seed, at, n, got, e)
					}
				default:
					if want := all[at:min(len(all), at+n)]; !bytes.Equal(got, want) || e != api.OK {
						t.Fatalf("seed %d: Slice(%d, %d) = %q, %d; want %q", seed, at, n, got, e, want)
					}
				}
				faults[e]++
			case 2:
				at := una + r.Intn(size+6) - 3
				n, e := b.Ack(first + uint32(at))
				if at < una || at > len(all) {
					if n != 0 || e != api.ErrSeq {
						t.Fatalf("seed %d: Ack(%d) = %d, %d", seed, at, n, e)
					}
				} else {
					if n != at-una || e != api.OK {
						t.Fatalf("seed %d: Ack(%d) = %d, %d; want %d", seed, at, n, e, at-una)
					}
					una = at
				}
				faults[e]++
			}
			held(t, b, first+uint32(una), first+uint32(len(all)), size-(len(all)-una))
			slice(t, b, b.Una(), size, string(all[una:]), api.OK)
		}
	}
	for _, e := range []api.Errno{api.OK, api.ErrWait, api.ErrRange, api.ErrSeq} {
		if faults[e] < 500 {
			t.Errorf("error %d came %d times", e, faults[e])
		}
	}
}

func TestRefusedP15_4(t *testing.T) {
	b := buffer(t, 3, 7)
	write(t, b, "abc", 3, api.OK)
	write(t, b, "xyz", 0, api.ErrWait)
	ack(t, b, 6, 0, api.ErrSeq)
	ack(t, b, 11, 0, api.ErrSeq)
	slice(t, b, 6, 1, "", api.ErrSeq)
	slice(t, b, 7, -1, "", api.ErrRange)
	held(t, b, 7, 10, 0)
	slice(t, b, 7, 9, "abc", api.OK)
}

func TestMemoryP15_5(t *testing.T) {
	b := buffer(t, 8, 0)
	data := []byte("abcdef")
	b.Write(data)
	if string(data) != "abcdef" {
		t.Error("an argument was changed:", data)
	}
	clear(data)
	slice(t, b, 0, 9, "abcdef", api.OK)
	for range 3 { // the ring turns
		x, _ := b.Slice(b.Una(), 9)
		y, _ := b.Slice(b.Una(), 9)
		for i := range x[:cap(x)] {
			x[:cap(x)][i] = '!'
		}
		if string(y) != "abcdef" {
			t.Errorf("two answers share memory: %q", y)
		}
		slice(t, b, b.Una(), 9, "abcdef", api.OK)
		b.Ack(b.End())
		b.Write([]byte("abcdef"))
	}
	other := buffer(t, 8, 0)
	write(t, other, "zz", 2, api.OK)
	slice(t, b, b.Una(), 9, "abcdef", api.OK)
}

func FuzzBuffer(f *testing.F) {
	f.Add(4, uint32(1<<32-1), []byte("abcde"), uint32(0), 2, uint32(1))
	f.Fuzz(func(t *testing.T, size int, first uint32, data []byte, seq uint32, n int, upTo uint32) {
		b, e := sendbuf.New(size, first)
		if e != api.OK {
			return
		}
		w, _ := b.Write(data)
		got, e := b.Slice(seq, n)
		if at := int(seq - first); e == api.OK && !bytes.Equal(got, data[at:min(w, at+min(n, w))]) {
			t.Fatal(got, e)
		}
		gone, e := b.Ack(upTo)
		if e == api.OK && (gone != int(upTo-first) || b.Room() != size-w+gone) {
			t.Fatal(gone, e, b.Room())
		}
	})
}
