package checksum_test

import (
	"bytes"
	"encoding/binary"
	"math"
	"math/rand"
	"testing"

	"stopcock/checksum"
)

// edges gives the words at which a sum, its carry or a bit's place may go wrong.
func edges() []uint16 {
	out := []uint16{0, 1, 2, 0x00fe, 0x00ff, 0x0100, 0x0101, 0x5555, 0x7ffe, 0x7fff, 0x8000, 0x8001, 0xaaaa, 0xfeff, 0xff00, 0xff01, 0xfffd, 0xfffe, 0xffff}
	for bit := range 16 {
		out = append(out, 1<<bit, ^uint16(1<<bit))
	}
	return out
}

// fold is the word of a sum that was never brought below 65536: 0 comes of 0 alone, 65535 of its other multiples.
func fold(sum uint64) uint16 {
	if sum > 0 && sum%65535 == 0 {
		return 65535
	}
	return uint16(sum % 65535)
}

// plainSum adds octets one by one, without a carry: an even one counts 256 times.
func plainSum(b []byte) uint16 {
	sum := uint64(0)
	for i, x := range b {
		if i%2 == 0 {
			sum += uint64(x) << 8
		} else {
			sum += uint64(x)
		}
	}
	return fold(sum)
}

// texts gives octets of every length up to 300 and some long ones: any, all 0, all 255, and sums that stay at the edge.
func texts() [][]byte {
	r := rand.New(rand.NewSource(3))
	out := [][]byte{nil, {}}
	sizes := []int{1499, 1500, 65534, 65535, 65536, 1<<20 + 1}
	for size := 1; size <= 300; size++ {
		sizes = append(sizes, size)
	}
	for _, size := range sizes {
		b := make([]byte, size)
		r.Read(b)
		sparse := make([]byte, size)
		sparse[r.Intn(size)] = byte(1 + r.Intn(255))
		out = append(out, b, sparse, make([]byte, size), bytes.Repeat([]byte{255}, size), bytes.Repeat([]byte{0x80, 0}, size)[:size])
	}
	return out
}

// sealed gives octets with their Check at an even place, and that place.
func sealed(r *rand.Rand, size int) ([]byte, int) {
	b := make([]byte, size)
	r.Read(b)
	at := 2 * r.Intn(size/2)
	b[at], b[at+1] = 0, 0
	binary.BigEndian.PutUint16(b[at:], checksum.Check(b))
	return b, at
}

func TestAddP2_1(t *testing.T) {
	for _, c := range []struct{ a, b, want uint16 }{
		{0, 0, 0},
		{0, 1, 1},
		{1, 2, 3},
		{0, 65535, 65535},
		{65535, 65535, 65535},
		{65535, 1, 1},
		{65535, 65534, 65534},
		{65534, 1, 65535},
		{65534, 2, 1},
		{65534, 65534, 65533},
		{32767, 32768, 65535},
		{32768, 32768, 1},
		{0xf203, 0xf4f5, 0xe6f9},
	} {
		if n := checksum.Add(c.a, c.b); n != c.want {
			t.Errorf("Add(%d, %d) = %d; want %d", c.a, c.b, n, c.want)
		}
		if n := checksum.Add(c.b, c.a); n != c.want {
			t.Errorf("Add(%d, %d) = %d; want %d", c.b, c.a, n, c.want)
		}
	}
}

// TestAddEveryWordP2_1 holds every word with every edge against the rule; 0 comes of 0 and 0 alone.
func TestAddEveryWordP2_1(t *testing.T) {
	for _, b := range edges() {
		for a := range 65536 {
			want := a + int(b)
			if want > 65535 {
				want -= 65535
			}
			n := checksum.Add(uint16(a), b)
			if int(n) != want || n == 0 && (a != 0 || b != 0) {
				t.Fatalf("Add(%d, %d) = %d; want %d", a, b, n, want)
			}
		}
	}
}

func TestSumP2_1(t *testing.T) {
	for _, c := range []struct {
		b    []byte
		want uint16
	}{
		{nil, 0},
		{[]byte{}, 0},
		{[]byte{0}, 0},
		{[]byte{0, 0, 0}, 0},
		{[]byte{1}, 0x0100},
		{[]byte{0xff}, 0xff00},
		{[]byte{1, 2}, 0x0102},
		{[]byte{1, 2, 3}, 0x0402},
		{[]byte{0xff, 0xff}, 0xffff},
		{[]byte{0xff, 0xff, 0, 0}, 0xffff},
		{[]byte{0xff, 0xff, 0xff, 0xff}, 0xffff},
		{[]byte{0xff, 0xff, 0, 1}, 1},
		{[]byte{0xff, 0xff, 1}, 0x0100},
		{[]byte{0x80, 0, 0x80, 0}, 1},
		{[]byte{0, 1, 0xf2, 0x03, 0xf4, 0xf5, 0xf6, 0xf7}, 0xddf2},
		{bytes.Repeat([]byte{0xff}, 65535), 0xff00},
		{bytes.Repeat([]byte{0xff}, 1<<20), 0xffff},
	} {
		if n := checksum.Sum(c.b); n != c.want {
			t.Errorf("Sum of %d octets %.16x = %04x; want %04x", len(c.b), c.b, n, c.want)
		}
	}
}

func TestSumOfTextsP2_1(t *testing.T) {
	for _, b := range texts() {
		if n := checksum.Sum(b); n != plainSum(b) {
			t.Fatalf("Sum of %d octets %.16x = %04x; want %04x", len(b), b, n, plainSum(b))
		}
	}
}

// TestSumStopsAtTheEndP2_1: an odd last octet has a 0 behind it, whatever lies there in memory.
func TestSumStopsAtTheEndP2_1(t *testing.T) {
	whole := bytes.Repeat([]byte{0xa7}, 40)
	for size := range 40 {
		if n, want := checksum.Sum(whole[:size]), plainSum(bytes.Clone(whole[:size])); n != want {
			t.Errorf("Sum of %d octets = %04x; want %04x", size, n, want)
		}
	}
}

func TestCheckP2_1(t *testing.T) {
	for _, c := range []struct {
		b    []byte
		want uint16
	}{
		{nil, 0xffff},
		{[]byte{}, 0xffff},
		{[]byte{0, 0}, 0xffff},
		{[]byte{0xff}, 0x00ff},
		{[]byte{0xff, 0xff}, 0},
		{[]byte{0xff, 0xff, 0xff, 0xff}, 0},
		{[]byte{0, 1, 0xf2, 0x03, 0xf4, 0xf5, 0xf6, 0xf7}, 0x220d},
	} {
		if n := checksum.Check(c.b); n != c.want {
			t.Errorf("Check of %x = %04x; want %04x", c.b, n, c.want)
		}
	}
	for _, b := range texts() {
		if n := checksum.Check(b); n != 65535-plainSum(b) {
			t.Fatalf("Check of %d octets %.16x = %04x; want %04x", len(b), b, n, 65535-plainSum(b))
		}
	}
}

func TestRightP2_1(t *testing.T) {
	for _, c := range []struct {
		b    []byte
		want bool
	}{
		{nil, false},
		{[]byte{}, false},
		{[]byte{0}, false},
		{[]byte{0xff}, false},
		{make([]byte, 20), false},
		{[]byte{0xff, 0xff}, true},
		{[]byte{0, 0, 0xff, 0xff}, true},
		{bytes.Repeat([]byte{0xff}, 8), true},
		{[]byte{0xff, 0xfe}, false},
		{[]byte{0xff, 0xff, 0, 1}, false},
		{[]byte{0xfe, 0xff, 0x01}, true},
		{[]byte{0, 1, 0xf2, 0x03, 0xf4, 0xf5, 0xf6, 0xf7, 0x22, 0x0d}, true},
		{[]byte{0, 1, 0xf2, 0x03, 0xf4, 0xf5, 0xf6, 0xf7, 0x0d, 0x22}, false},
	} {
		if ok := checksum.Right(c.b); ok != c.want {
			t.Errorf("Right of %x = %t", c.b, ok)
		}
	}
	for _, b := range texts() {
		if ok := checksum.Right(b); ok != (plainSum(b) == 65535) {
			t.Fatalf("Right of %d octets %.16x = %t", len(b), b, ok)
		}
	}
}

func TestUpdateP2_2(t *testing.T) {
	for _, c := range []struct{ check, old, fresh, want uint16 }{
		{0xdd2f, 0x5555, 0x3285, 0},
		{0, 0, 0, 0},
		{0xffff, 0xffff, 0, 0xffff},
		{0xffff, 0, 0, 0},
		{0xffff, 0xffff, 0xffff, 0},
		{0, 0xffff, 0, 0},
		{0xffff, 0, 1, 0xfffe},
		{0, 0, 1, 0xfffe},
		{0x220d, 0xf203, 0xf203, 0x220d},
		{0x220d, 0xf203, 0xf204, 0x220c},
		{0x220d, 0xf203, 0, 0x1411},
		{0x1234, 0, 0x1235, 0xfffe},
	} {
		if n := checksum.Update(c.check, c.old, c.fresh); n != c.want {
			t.Errorf("Update(%04x, %04x, %04x) = %04x; want %04x", c.check, c.old, c.fresh, n, c.want)
		}
	}
}

func TestUpdateOfAllKindsP2_2(t *testing.T) {
	hold := func(check, old, fresh uint16) {
		want := 65535 - fold(65535-uint64(check)+65535-uint64(old)+uint64(fresh))
		if n := checksum.Update(check, old, fresh); n != want {
			t.Fatalf("Update(%04x, %04x, %04x) = %04x; want %04x", check, old, fresh, n, want)
		}
	}
	for _, check := range edges() {
		for _, old := range edges() {
			for _, fresh := range edges() {
				hold(check, old, fresh)
			}
		}
	}
	r := rand.New(rand.NewSource(4))
	for range 100000 {
		hold(uint16(r.Uint32()), uint16(r.Uint32()), uint16(r.Uint32()))
	}
}

func TestPseudoP2_2(t *testing.T) {
	for _, c := range []struct {
		src, dst uint32
		proto    byte
		n        int
		want     uint16
	}{
		{0, 0, 0, 0, 0},
		{0x0a000001, 0x0a000002, 6, 22, 0x141f},
		{0, 0, 255, 0, 255},
		{0, 0, 0, 1, 1},
		{0, 0, 0, 65535, 65535},
		{0, 0, 0, 65536, 0},
		{0, 0, 0, 65537, 1},
		{0, 0, 0, -1, 65535},
		{0, 0, 0, -65535, 1},
		{0, 0, 0, -65536, 0},
		{0, 0, 0, math.MinInt, 0},
		{0, 0, 0, math.MaxInt, 65535},
		{0x00010000, 0, 0, 0, 1},
		{0, 0x80008000, 0, 0, 1},
		{math.MaxUint32, math.MaxUint32, 0, 0, 65535},
		{math.MaxUint32, math.MaxUint32, 255, 65535, 255},
	} {
		if n := checksum.Pseudo(c.src, c.dst, c.proto, c.n); n != c.want {
			t.Errorf("Pseudo(%08x, %08x, %d, %d) = %04x; want %04x", c.src, c.dst, c.proto, c.n, n, c.want)
		}
	}
}

// TestPseudoIsASumP2_2 holds Pseudo against the Sum of the 12 octets that it stands for.
func TestPseudoIsASumP2_2(t *testing.T) {
	r := rand.New(rand.NewSource(5))
	for range 100000 {
		src, dst, proto, n := r.Uint32()>>r.Intn(32), r.Uint32()<<r.Intn(32), byte(r.Intn(256)), int(r.Uint64())>>r.Intn(64)
		var b []byte
		b = binary.BigEndian.AppendUint32(b, src)
		b = binary.BigEndian.AppendUint32(b, dst)
		b = append(b, 0, proto)
		b = binary.BigEndian.AppendUint16(b, uint16((n%65536+65536)%65536))
		if got := checksum.Pseudo(src, dst, proto, n); got != checksum.Sum(b) || got != plainSum(b) {
			t.Fatalf("Pseudo(%08x, %08x, %d, %d) = %04x; want %04x", src, dst, proto, n, got, plainSum(b))
		}
	}
}

func TestSumInTwoP2_3(t *testing.T) {
	for _, b := range texts() {
		for at := 0; at <= len(b); at += 2 {
			if len(b) > 300 && at > 4 && at < len(b)-4 {
				continue
			}
			if n := checksum.Add(checksum.Sum(b[:at]), checksum.Sum(b[at:])); n != checksum.Sum(b) {
				t.Fatalf("%d octets, parted at %d: %04x; want %04x", len(b), at, n, checksum.Sum(b))
			}
		}
	}
}

func TestRightWithCheckP2_4(t *testing.T) {
	r := rand.New(rand.NewSource(6))
	for size := 2; size <= 300; size++ {
		for range 20 {
			if b, at := sealed(r, size); !checksum.Right(b) {
				t.Fatalf("%x with its Check at %d is not right", b, at)
			}
		}
	}
}

// TestOneOctetChangedP2_4: in any place, to anything.
func TestOneOctetChangedP2_4(t *testing.T) {
	r := rand.New(rand.NewSource(7))
	whole := [][]byte{{0, 0, 0xff, 0xff}, {0xff, 0xff}, bytes.Repeat([]byte{0xff}, 20)}
	for _, size := range []int{2, 3, 8, 20, 21, 61} {
		b, _ := sealed(r, size)
		whole = append(whole, b)
	}
	for _, b := range whole {
		for at, was := range b {
			for x := range 256 {
				b[at] = byte(x)
				if checksum.Right(b) != (byte(x) == was) {
					t.Fatalf("the octet %d, %02x changed to %02x, is not told: %x", at, was, x, b)
				}
			}
			b[at] = was
		}
	}
}

// TestPairChangedP2_4: every change of two octets at an even place is told, but one between 0 and 65535.
func TestPairChangedP2_4(t *testing.T) {
	for _, b := range [][]byte{
		{0, 0, 1, 2, 0xfe, 0xfd},
		{0xff, 0xff, 1, 2, 0xfe, 0xfd},
		{1, 2, 0xfe, 0xfd, 0, 0},
		{1, 2, 0xfe, 0xfd, 0xff, 0xff},
	} {
		for at := 0; at < len(b); at += 2 {
			was := binary.BigEndian.Uint16(b[at:])
			for x := range 65536 {
				binary.BigEndian.PutUint16(b[at:], uint16(x))
				same := uint16(x) == was || x%65535 == 0 && was%65535 == 0
				if checksum.Right(b) != same {
					t.Fatalf("%04x at %d changed to %04x: Right = %t", was, at, x, !same)
				}
			}
			binary.BigEndian.PutUint16(b[at:], was)
		}
	}
}

func TestUpdateKeepsRightP2_5(t *testing.T) {
	r := rand.New(rand.NewSource(8))
	for range 300 {
		b, at := sealed(r, 4+r.Intn(60))
		check := binary.BigEndian.Uint16(b[at:])
		for place := 0; place+1 < len(b); place += 2 {
			if place == at {
				continue
			}
			for _, fresh := range append(edges(), uint16(r.Uint32())) {
				changed := bytes.Clone(b)
				old := binary.BigEndian.Uint16(b[place:])
				binary.BigEndian.PutUint16(changed[place:], fresh)
				binary.BigEndian.PutUint16(changed[at:], 0)
				if plainSum(changed) == 0 {
					continue // see TestUpdateToZerosP2_5
				}
				binary.BigEndian.PutUint16(changed[at:], checksum.Update(check, old, fresh))
				if !checksum.Right(changed) {
					t.Fatalf("%x, %04x at %d changed to %04x, is not right with the checksum's Update at %d", b, old, place, fresh, at)
				}
			}
		}
	}
}

// TestUpdateToZerosP2_5: where all but the checksum becomes 0, the rule of P2.2 answers 0 for old ones but 65535 beside 65535: all zeros, that are not right.
func TestUpdateToZerosP2_5(t *testing.T) {
	for old := range 65536 {
		check := checksum.Check([]byte{byte(old >> 8), byte(old)})
		if n := checksum.Update(check, uint16(old), 0); n != 0 {
			t.Fatalf("Update(%04x, %04x, 0) = %04x; want 0", check, old, n)
		}
	}
	if n := checksum.Update(0xffff, 0xffff, 0); n != 0xffff {
		t.Errorf("Update(ffff, ffff, 0) = %04x; want ffff", n)
	}
}

// TestArgumentsStayP2_6: what is handed in is not changed, nor what lies behind it in the same memory (P2).
func TestArgumentsStayP2_6(t *testing.T) {
	for size := range 13 {
		whole := []byte{1, 2, 3, 4, 5, 6, 7, 8, 9, 10, 11, 12}
		before := bytes.Clone(whole)
		checksum.Sum(whole[:size])
		checksum.Check(whole[:size])
		checksum.Right(whole[:size])
		if !bytes.Equal(whole, before) {
			t.Errorf("an argument of %d octets was changed: %v", size, whole)
		}
	}
}

// TestNothingIsKeptP2_6: a call answers the same whatever was asked, and changed, between (P2, P3).
func TestNothingIsKeptP2_6(t *testing.T) {
	b := []byte{0, 1, 0xf2, 0x03, 0xf4, 0xf5, 0xf6, 0xf7}
	all := func() [6]uint16 {
		right := uint16(0)
		if checksum.Right(b) {
			right = 1
		}
		return [6]uint16{checksum.Sum(b), checksum.Check(b), right, checksum.Add(7, 65535), checksum.Update(1, 2, 3), checksum.Pseudo(1, 2, 3, 4)}
	}
	first := all()
	b[0] = 0x99
	if n := checksum.Sum(b); n != 0x76f3 {
		t.Errorf("Sum of changed octets = %04x; want 76f3", n)
	}
	checksum.Pseudo(math.MaxUint32, math.MaxUint32, 255, math.MaxInt)
	checksum.Update(65535, 65535, 65535)
	b[0] = 0
	if all() != first {
		t.Errorf("the same calls answered otherwise: %v, %v", first, all())
	}
}

// FuzzOctets: no octets make a call panic, and all calls agree with the plain sum (P1).
func FuzzOctets(f *testing.F) {
	for _, s := range []string{"", "\x00", "\xff", "\xff\xff", "\x00\x01\xf2\x03\xf4\xf5\xf6\xf7", "\x00\x00\xff\xff\xff"} {
		f.Add([]byte(s), uint16(len(s)))
	}
	f.Fuzz(func(t *testing.T, b []byte, fresh uint16) {
		want := plainSum(b)
		if n := checksum.Sum(b); n != want {
			t.Errorf("Sum(%x) = %04x; want %04x", b, n, want)
		}
		if n := checksum.Check(b); n != ^want {
			t.Errorf("Check(%x) = %04x; want %04x", b, n, ^want)
		}
		if ok := checksum.Right(b); ok != (want == 65535) {
			t.Errorf("Right(%x) = %t", b, ok)
		}
		if n := checksum.Add(want, fresh); n != fold(uint64(want)+uint64(fresh)) {
			t.Errorf("Add(%04x, %04x) = %04x", want, fresh, n)
		}
	})
}
