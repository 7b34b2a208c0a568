package ether_test

import (
	"bytes"
	"encoding/hex"
	"math"
	"math/rand"
	"reflect"
	"strings"
	"testing"

	"stopcock/api"
	"stopcock/ether"
)

// octetsOf reads hexadecimal digits, with spaces between for the eye.
func octetsOf(t *testing.T, s string) []byte {
	t.Helper()
	b, err := hex.DecodeString(strings.ReplaceAll(s, " ", ""))
	if err != nil {
		t.Fatal(err)
	}
	return b
}

// sameFrame holds two frames against each other: no Data and empty ones are one.
func sameFrame(a, b api.Ether) bool {
	return a.Dst == b.Dst && a.Src == b.Src && a.Type == b.Type && bytes.Equal(a.Data, b.Data)
}

// noFrame tells whether an answer beside an error is zero.
func noFrame(e api.Ether) bool {
	return e.Dst == 0 && e.Src == 0 && e.Type == 0 && len(e.Data) == 0
}

// frames gives frames whose octets all differ, and those at the edges.
func frames() []struct {
	e api.Ether
	s string
} {
	return []struct {
		e api.Ether
		s string
	}{
		{api.Ether{Dst: 1, Src: 2, Type: 2048}, "000000000001 000000000002 0800"},
		{api.Ether{Dst: 0x010203040506, Src: 0x0708090a0b0c, Type: 0x0d0e, Data: []byte{0x0f, 0x10, 0x11}}, "010203040506 0708090a0b0c 0d0e 0f1011"},
		{api.Ether{}, "000000000000 000000000000 0000"},
		{api.Ether{Dst: api.MaxMac, Src: api.MaxMac, Type: 65535, Data: []byte{255}}, "ffffffffffff ffffffffffff ffff ff"},
		{api.Ether{Dst: api.MaxMac, Src: 0, Type: 2054, Data: []byte{0}}, "ffffffffffff 000000000000 0806 00"},
		{api.Ether{Dst: 1 << 47, Src: 1, Type: 1}, "800000000000 000000000001 0001"},
	}
}

func TestParseP3_1(t *testing.T) {
	for _, c := range frames() {
		if e, no := ether.Parse(octetsOf(t, c.s)); !sameFrame(e, c.e) || no != api.OK {
			t.Errorf("Parse(%s) = %v, %d; want %v", c.s, e, no, c.e)
		}
	}
}

func TestBuildP3_1(t *testing.T) {
	for _, c := range frames() {
		if b, no := ether.Build(c.e); !bytes.Equal(b, octetsOf(t, c.s)) || no != api.OK {
			t.Errorf("Build(%v) = %x, %d; want %s", c.e, b, no, c.s)
		}
	}
}

// TestParseOfLengthsP3_1: every length up to 100, and those about the longest.
func TestParseOfLengthsP3_1(t *testing.T) {
	sizes := []int{65534, 65535, 65536, 65537, 1 << 20}
	for size := range 100 {
		sizes = append(sizes, size)
	}
	for _, size := range sizes {
		want := api.OK
		switch {
		case size < 14:
			want = api.ErrShort
		case size > 65535:
			want = api.ErrLong
		}
		b := bytes.Repeat([]byte{0xa5}, size)
		e, no := ether.Parse(b)
		if no != want || no != api.OK && !noFrame(e) || no == api.OK && len(e.Data) != size-14 {
			t.Errorf("Parse of %d octets = %d octets of Data, %d; want %d", size, len(e.Data), no, want)
		}
	}
	if e, no := ether.Parse(nil); no != api.ErrShort || !noFrame(e) {
		t.Errorf("Parse(nil) = %v, %d; want ErrShort alone", e, no)
	}
}

func TestBuildOutOfRangeP3_1(t *testing.T) {
	long := make([]byte, 65522)
	for _, c := range []struct {
		e    api.Ether
		want api.Errno
	}{
		{api.Ether{Dst: api.MaxMac + 1}, api.ErrRange},
		{api.Ether{Src: api.MaxMac + 1}, api.ErrRange},
		{api.Ether{Dst: math.MaxUint64}, api.ErrRange},
		{api.Ether{Src: math.MaxUint64}, api.ErrRange},
		{api.Ether{Type: -1}, api.ErrRange},
		{api.Ether{Type: 65536}, api.ErrRange},
		{api.Ether{Type: math.MinInt}, api.ErrRange},
		{api.Ether{Type: math.MaxInt}, api.ErrRange},
		{api.Ether{Type: 1 << 32}, api.ErrRange},
		{api.Ether{Data: long}, api.ErrLong},
		{api.Ether{Data: make([]byte, 1<<20)}, api.ErrLong},
		{api.Ether{Dst: api.MaxMac + 1, Data: long}, api.ErrRange},
		{api.Ether{Src: api.MaxMac + 1, Data: long}, api.ErrRange},
		{api.Ether{Type: -1, Data: long}, api.ErrRange},
	} {
		if b, no := ether.Build(c.e); len(b) != 0 || no != c.want {
			t.Errorf("Build of %x, %x, %d, %d octets = %d octets, %d; want %d alone", c.e.Dst, c.e.Src, c.e.Type, len(c.e.Data), len(b), no, c.want)
		}
	}
}

// TestBuildLongestP3_1: the longest frame has MaxData octets, its head among them.
func TestBuildLongestP3_1(t *testing.T) {
	data := bytes.Repeat([]byte{7}, 65521)
	b, no := ether.Build(api.Ether{Dst: 1, Src: 2, Type: 3, Data: data})
	if len(b) != 65535 || no != api.OK || !bytes.Equal(b[14:], data) {
		t.Errorf("Build of 65521 octets of Data = %d octets, %d", len(b), no)
	}
}

// arps gives ARPs whose octets all differ, and those at the edges.
func arps() []struct {
	a api.Arp
	s string
} {
	return []struct {
		a api.Arp
		s string
	}{
		{api.Arp{Op: 1, SrcMac: 0x010203040506, SrcIP: 0x0708090a, DstMac: 0x0b0c0d0e0f10, DstIP: 0x11121314}, "0001 0800 06 04 0001 010203040506 0708090a 0b0c0d0e0f10 11121314"},
		{api.Arp{Op: 2, SrcMac: 0xf1f2f3f4f5f6, SrcIP: 0xf7f8f9fa, DstMac: 0xebecedeeeff0, DstIP: 0xe1e2e3e4}, "0001 0800 06 04 0002 f1f2f3f4f5f6 f7f8f9fa ebecedeeeff0 e1e2e3e4"},
		{api.Arp{Op: 1}, "0001 0800 06 04 0001 000000000000 00000000 000000000000 00000000"},
		{api.Arp{Op: 2, SrcMac: api.MaxMac, SrcIP: math.MaxUint32, DstMac: api.MaxMac, DstIP: math.MaxUint32}, "0001 0800 06 04 0002 ffffffffffff ffffffff ffffffffffff ffffffff"},
		{api.Arp{Op: 1, SrcMac: 1, SrcIP: 2, DstIP: 3}, "0001 0800 06 04 0001 000000000001 00000002 000000000000 00000003"},
	}
}

func TestParseArpP3_2(t *testing.T) {
	for _, c := range arps() {
		if a, no := ether.ParseArp(octetsOf(t, c.s)); a != c.a || no != api.OK {
			t.Errorf("ParseArp(%s) = %v, %d; want %v", c.s, a, no, c.a)
		}
	}
}

func TestBuildArpP3_2(t *testing.T) {
	for _, c := range arps() {
		if b, no := ether.BuildArp(c.a); !bytes.Equal(b, octetsOf(t, c.s)) || no != api.OK {
			t.Errorf("BuildArp(%v) = %x, %d; want %s", c.a, b, no, c.s)
		}
	}
}

// TestParseArpShortP3_2: too short is told ahead of what the octets say.
func TestParseArpShortP3_2(t *testing.T) {
	whole := octetsOf(t, arps()[0].s)
	for size := range 28 {
		for _, b := range [][]byte{whole[:size], make([]byte, size)} {
			if a, no := ether.ParseArp(b); a != (api.Arp{}) || no != api.ErrShort {
				t.Errorf("ParseArp of %d octets = %v, %d; want ErrShort alone", size, a, no)
			}
		}
	}
	if a, no := ether.ParseArp(nil); a != (api.Arp{}) || no != api.ErrShort {
		t.Errorf("ParseArp(nil) = %v, %d; want ErrShort alone", a, no)
	}
}

// TestParseArpBehindP3_2: what stands behind the 28 octets is not looked at, however much it is.
func TestParseArpBehindP3_2(t *testing.T) {
	c := arps()[1]
	for _, more := range []int{1, 2, 18, 65507, 65508, 1 << 20} {
		b := append(octetsOf(t, c.s), bytes.Repeat([]byte{0xee}, more)...)
		if a, no := ether.ParseArp(b); a != c.a || no != api.OK {
			t.Errorf("ParseArp with %d octets behind = %v, %d; want %v", more, a, no, c.a)
		}
	}
}

// TestParseArpEveryStartP3_2 sets each of the first 8 octets to each other value: Op 1 or 2 alone are ARPs.
func TestParseArpEveryStartP3_2(t *testing.T) {
	for _, c := range arps()[:2] {
		b := octetsOf(t, c.s)
		for at := range 8 {
			was := b[at]
			for x := range 256 {
				b[at] = byte(x)
				want := c.a
				a, no := ether.ParseArp(b)
				if at == 7 && (x == 1 || x == 2) {
					want.Op = x
				} else if byte(x) != was {
					if a != (api.Arp{}) || no != api.ErrArp {
						t.Fatalf("ParseArp with %02x at %d = %v, %d; want ErrArp alone", x, at, a, no)
					}
					continue
				}
				if a != want || no != api.OK {
					t.Fatalf("ParseArp with %02x at %d = %v, %d; want %v", x, at, a, no, want)
				}
			}
			b[at] = was
		}
	}
}

func TestBuildArpRefusedP3_2(t *testing.T) {
	for _, c := range []struct {
		a    api.Arp
		want api.Errno
	}{
		{api.Arp{}, api.ErrArp},
		{api.Arp{Op: 3}, api.ErrArp},
		{api.Arp{Op: -1}, api.ErrArp},
		{api.Arp{Op: 257}, api.ErrArp},
		{api.Arp{Op: 258}, api.ErrArp},
		{api.Arp{Op: 1<<32 + 1}, api.ErrArp},
		{api.Arp{Op: math.MinInt}, api.ErrArp},
		{api.Arp{Op: math.MaxInt}, api.ErrArp},
		{api.Arp{Op: 1, SrcMac: api.MaxMac + 1}, api.ErrRange},
		{api.Arp{Op: 2, DstMac: api.MaxMac + 1}, api.ErrRange},
		{api.Arp{Op: 2, SrcMac: math.MaxUint64, DstMac: math.MaxUint64}, api.ErrRange},
		{api.Arp{Op: 1, DstMac: 1 << 63}, api.ErrRange},
		{api.Arp{Op: 0, SrcMac: api.MaxMac + 1}, api.ErrArp},
		{api.Arp{Op: 3, DstMac: math.MaxUint64}, api.ErrArp},
	} {
		if b, no := ether.BuildArp(c.a); len(b) != 0 || no != c.want {
			t.Errorf("BuildArp(%v) = %x, %d; want %d alone", c.a, b, no, c.want)
		}
	}
}

func TestThereAndBackP3_3(t *testing.T) {
	r := rand.New(rand.NewSource(1))
	for range 3000 {
		e := api.Ether{Dst: r.Uint64() >> (16 + r.Intn(48)), Src: r.Uint64() >> (16 + r.Intn(48)), Type: r.Intn(65536), Data: make([]byte, r.Intn(200))}
		r.Read(e.Data)
		b, no := ether.Build(e)
		if got, back := ether.Parse(b); !sameFrame(got, e) || no != api.OK || back != api.OK {
			t.Fatalf("Parse(Build(%v)) = %v, %d, %d", e, got, no, back)
		}
		a := api.Arp{Op: 1 + r.Intn(2), SrcMac: e.Src, SrcIP: r.Uint32() >> r.Intn(32), DstMac: e.Dst, DstIP: r.Uint32() << r.Intn(32)}
		b, no = ether.BuildArp(a)
		if got, back := ether.ParseArp(b); got != a || no != api.OK || back != api.OK {
			t.Fatalf("ParseArp(BuildArp(%v)) = %v, %d, %d", a, got, no, back)
		}
	}
}

func TestBackAndThereP3_3(t *testing.T) {
	r := rand.New(rand.NewSource(2))
	sizes := []int{14, 15, 65534, 65535}
	for range 2000 {
		sizes = append(sizes, 14+r.Intn(200))
	}
	for _, size := range sizes {
		b := make([]byte, size)
		r.Read(b)
		e, no := ether.Parse(b)
		if got, back := ether.Build(e); !bytes.Equal(got, b) || no != api.OK || back != api.OK {
			t.Fatalf("Build(Parse) of %d octets, %.32x = %.32x, %d, %d", size, b, got, no, back)
		}
	}
}

// TestArgumentsStayP3_4: what is handed in is not changed, nor what lies behind it in the same memory (P2).
func TestArgumentsStayP3_4(t *testing.T) {
	whole := append(octetsOf(t, arps()[0].s), 1, 2, 3, 4)
	before := bytes.Clone(whole)
	for size := range len(whole) + 1 {
		ether.Parse(whole[:size])
		ether.ParseArp(whole[:size])
		ether.Build(api.Ether{Dst: 1, Src: 2, Type: 3, Data: whole[:size]})
		if !bytes.Equal(whole, before) {
			t.Fatalf("an argument of %d octets was changed: %x", size, whole)
		}
	}
}

// TestAnswersAreNewP3_4: changing an argument or an answer changes no other answer (P2).
func TestAnswersAreNewP3_4(t *testing.T) {
	in := octetsOf(t, frames()[1].s)
	e, _ := ether.Parse(in)
	other, _ := ether.Parse(in)
	clear(in)
	if want := frames()[1].e; !reflect.DeepEqual(e, want) {
		t.Errorf("Parse keeps its argument: %v", e)
	}
	clear(e.Data[:cap(e.Data)])
	if want := frames()[1].e; !reflect.DeepEqual(other, want) {
		t.Errorf("two answers of Parse share memory: %v", other)
	}
	data := []byte{1, 2, 3}
	frame := api.Ether{Dst: 1, Src: 2, Type: 3, Data: data}
	for name, call := range map[string]func() ([]byte, api.Errno){
		"Build":    func() ([]byte, api.Errno) { return ether.Build(frame) },
		"BuildArp": func() ([]byte, api.Errno) { return ether.BuildArp(arps()[0].a) },
	} {
		first, _ := call()
		second, _ := call()
		want := bytes.Clone(first)
		clear(first[:cap(first)])
		third, _ := call()
		if !bytes.Equal(second, want) || !bytes.Equal(third, want) || !bytes.Equal(data, []byte{1, 2, 3}) {
			t.Errorf("%s: answers share memory: %x, %x, %x", name, second, third, data)
		}
	}
}

// TestNothingIsKeptP3: a call answers the same whatever was asked, and refused, between.
func TestNothingIsKeptP3(t *testing.T) {
	all := func() []any {
		var out []any
		for i, c := range frames() {
			b, no := ether.Build(c.e)
			e, back := ether.Parse(b)
			a, none := ether.ParseArp(octetsOf(t, arps()[i%5].s))
			built, most := ether.BuildArp(a)
			out = append(out, b, no, e, back, a, none, built, most)
		}
		return out
	}
	first := all()
	ether.Build(api.Ether{Dst: math.MaxUint64})
	ether.BuildArp(api.Arp{Op: 9})
	ether.Parse(make([]byte, 70000))
	ether.ParseArp(make([]byte, 28))
	if !reflect.DeepEqual(all(), first) {
		t.Error("the same calls answered otherwise")
	}
}

// FuzzOctets: no octets make a call panic, and what is taken is what is built of it (P1, P3.3).
func FuzzOctets(f *testing.F) {
	f.Add([]byte(nil))
	f.Add(make([]byte, 14))
	f.Add([]byte("\x00\x01\x08\x00\x06\x04\x00\x02abcdefghijklmnopqrstu"))
	f.Fuzz(func(t *testing.T, b []byte) {
		e, no := ether.Parse(b)
		if got, _ := ether.Build(e); no == api.OK && !bytes.Equal(got, b) || (no == api.OK) != (len(b) >= 14 && len(b) <= 65535) {
			t.Errorf("Parse(%x) = %v, %d", b, e, no)
		}
		a, no := ether.ParseArp(b)
		if got, _ := ether.BuildArp(a); no == api.OK && !bytes.Equal(got, b[:28]) || no != api.OK && a != (api.Arp{}) {
			t.Errorf("ParseArp(%x) = %v, %d", b, a, no)
		}
	})
}
