package ipwire_test

import (
	"bytes"
	"encoding/binary"
	"encoding/hex"
	"math"
	"math/rand"
	"reflect"
	"strings"
	"testing"

	"stopcock/api"
	"stopcock/checksum"
	"stopcock/ipwire"
)

// octetsOf reads hexadecimal digits, with spaces between for the eye.
func octetsOf(t *testing.T, s string) []byte {
	t.Helper()
	b, err := hex.DecodeString(strings.ReplaceAll(s, " ", ""))
	if err != nil {
		t.Fatal(err)
	}
	return b
}

// plain is the same packet or message with one form of no octets.
func plain(p api.IP) api.IP {
	p.Options = append([]byte(nil), p.Options...)
	p.Data = append([]byte(nil), p.Data...)
	return p
}

func samePacket(a, b api.IP) bool { return reflect.DeepEqual(plain(a), plain(b)) }

func noPacket(p api.IP) bool { return samePacket(p, api.IP{}) }

func sameMessage(a, b api.Icmp) bool {
	return a.Type == b.Type && a.Code == b.Code && a.Rest == b.Rest && bytes.Equal(a.Data, b.Data)
}

func noMessage(m api.Icmp) bool { return sameMessage(m, api.Icmp{}) }

// seal lays the checksum of the first size octets of b at that place, worked out without the program.
func seal(b []byte, size, at int) {
	b[at], b[at+1] = 0, 0
	sum := 0
	for i, x := range b[:size] {
		sum += int(x) << (8 - i%2*8)
	}
	for sum > 65535 {
		sum = sum>>16 + sum&65535
	}
	binary.BigEndian.PutUint16(b[at:], uint16(65535-sum))
}

// plainBuild lays a packet's octets without the program.
func plainBuild(p api.IP) []byte {
	fragment := p.Offset / 8
	if p.DF {
		fragment += 16384
	}
	if p.MF {
		fragment += 8192
	}
	head := 20 + len(p.Options)
	b := []byte{byte(64 + head/4), p.TOS}
	b = binary.BigEndian.AppendUint16(b, uint16(head+len(p.Data)))
	b = binary.BigEndian.AppendUint16(b, p.ID)
	b = binary.BigEndian.AppendUint16(b, uint16(fragment))
	b = append(b, p.TTL, p.Proto, 0, 0)
	b = binary.BigEndian.AppendUint32(b, p.Src)
	b = binary.BigEndian.AppendUint32(b, p.Dst)
	b = append(b, p.Options...)
	b = append(b, p.Data...)
	seal(b, head, 10)
	return b
}

// anyPacket gives a packet that may be.
func anyPacket(r *rand.Rand) api.IP {
	p := api.IP{
		TOS: byte(r.Intn(256)), ID: uint16(r.Intn(65536)), DF: r.Intn(2) == 0, MF: r.Intn(2) == 0,
		TTL: byte(r.Intn(256)), Proto: byte(r.Intn(256)), Src: r.Uint32() >> r.Intn(32), Dst: r.Uint32() << r.Intn(32),
		Options: make([]byte, 4*r.Intn(11)), Data: make([]byte, r.Intn(100)*(1+r.Intn(16))),
	}
	if r.Intn(2) == 0 {
		p.Offset = 8 * r.Intn(8192)
	}
	r.Read(p.Options)
	r.Read(p.Data)
	return p
}

// packets gives packets with their octets written out: the example, one whose octets all differ, each flag, each edge.
func packets() []struct {
	p api.IP
	s string
} {
	return []struct {
		p api.IP
		s string
	}{
		{api.IP{Proto: 6, TTL: 64, Src: 0x0a000001, Dst: 0x0a000002, Data: []byte("hi")}, "45000016 00000000 400666e0 0a000001 0a000002 6869"},
		{api.IP{TOS: 0x11, ID: 0x2233, TTL: 0x44, Proto: 0x55, Src: 0x66778899, Dst: 0xaabbccdd}, "45110014 22330000 4455eda7 66778899 aabbccdd"},
		{api.IP{}, "45000014 00000000 0000baeb 00000000 00000000"},
		{api.IP{DF: true}, "45000014 00004000 00007aeb 00000000 00000000"},
		{api.IP{MF: true}, "45000014 00002000 00009aeb 00000000 00000000"},
		{api.IP{Offset: 8}, "45000014 00000001 0000baea 00000000 00000000"},
		{api.IP{Offset: 65528}, "45000014 00001fff 00009aec 00000000 00000000"},
		{api.IP{DF: true, MF: true, Offset: 65528}, "45000014 00007fff 00003aec 00000000 00000000"},
		{api.IP{Options: []byte{1, 2, 3, 4}, Data: []byte{5}}, "46000019 00000000 0000b5e0 00000000 00000000 01020304 05"},
		{
			api.IP{TOS: 255, ID: 65535, DF: true, MF: true, Offset: 65528, TTL: 255, Proto: 255, Src: math.MaxUint32, Dst: math.MaxUint32, Options: bytes.Repeat([]byte{255}, 40)},
			"4fff003c ffff7fff ffff2fc5 ffffffff ffffffff" + strings.Repeat("ff", 40),
		},
	}
}

func TestBuildP4_1(t *testing.T) {
	for _, c := range packets() {
		if b, e := ipwire.Build(c.p); !bytes.Equal(b, octetsOf(t, c.s)) || e != api.OK {
			t.Errorf("Build(%v) = %x, %d; want %s", c.p, b, e, c.s)
		}
	}
}

func TestBuildOfAllKindsP4_1(t *testing.T) {
	r := rand.New(rand.NewSource(1))
	for range 5000 {
		p := anyPacket(r)
		if b, e := ipwire.Build(p); !bytes.Equal(b, plainBuild(p)) || e != api.OK || ipwire.Check(p) != api.OK {
			t.Fatalf("Build(%v) = %x, %d; want %x", p, b, e, plainBuild(p))
		}
	}
}

// refuse holds Check and Build of p against an error that both tell.
func refuse(t *testing.T, p api.IP, want api.Errno) {
	t.Helper()
	if e := ipwire.Check(p); e != want {
		t.Errorf("Check of Offset %d, %d Options, %d octets = %d; want %d", p.Offset, len(p.Options), len(p.Data), e, want)
	}
	b, e := ipwire.Build(p)
	if e != want || (len(b) == 0) != (want != api.OK) {
		t.Errorf("Build of Offset %d, %d Options, %d octets = %d octets, %d; want %d", p.Offset, len(p.Options), len(p.Data), len(b), e, want)
	}
}

func TestOffsetsP4_1(t *testing.T) {
	for _, offset := range []int{-65536, -16, -8, -7, -1, math.MinInt, math.MaxInt, math.MaxInt - 7, 65529, 65535, 65536, 65544, 1 << 32, 1 << 40} {
		refuse(t, api.IP{Offset: offset}, api.ErrFragment)
	}
	for offset := range 65536 {
		want := api.OK
		if offset%8 != 0 {
			want = api.ErrFragment
		}
		if e := ipwire.Check(api.IP{Offset: offset}); e != want {
			t.Fatalf("Check of Offset %d = %d; want %d", offset, e, want)
		}
	}
}

func TestOptionsP4_1(t *testing.T) {
	for size := range 100 {
		want := api.OK
		if size > 40 || size%4 != 0 {
			want = api.ErrLength
		}
		refuse(t, api.IP{Options: make([]byte, size)}, want)
	}
	refuse(t, api.IP{Options: make([]byte, 1<<20)}, api.ErrLength)
}

func TestLongestP4_1(t *testing.T) {
	for options := 0; options <= 40; options += 4 {
		most := 65535 - 20 - options
		refuse(t, api.IP{Options: make([]byte, options), Data: make([]byte, most)}, api.OK)
		refuse(t, api.IP{Options: make([]byte, options), Data: make([]byte, most+1)}, api.ErrLong)
	}
	refuse(t, api.IP{Data: make([]byte, 1<<20)}, api.ErrLong)
	p := api.IP{Offset: 65528, Data: make([]byte, 65515)}
	refuse(t, p, api.OK)
	if b, _ := ipwire.Build(p); !bytes.Equal(b, plainBuild(p)) {
		t.Errorf("Build of 65515 octets begins with %.20x; want %.20x", b, plainBuild(p))
	}
}

// TestOrderOfErrorsP4_1: the first that the chapter names is told (P4).
func TestOrderOfErrorsP4_1(t *testing.T) {
	long := make([]byte, 70000)
	refuse(t, api.IP{Offset: 1, Options: []byte{1}, Data: long}, api.ErrFragment)
	refuse(t, api.IP{Offset: -8, Options: make([]byte, 44)}, api.ErrFragment)
	refuse(t, api.IP{Offset: 65536, Data: long}, api.ErrFragment)
	refuse(t, api.IP{Options: []byte{1}, Data: long}, api.ErrLength)
	refuse(t, api.IP{Options: make([]byte, 44), Data: long}, api.ErrLength)
}

func TestParseP4_2(t *testing.T) {
	for _, c := range packets() {
		b := octetsOf(t, c.s)
		if p, e := ipwire.Parse(b); !samePacket(p, c.p) || e != api.OK {
			t.Errorf("Parse(%s) = %v, %d; want %v", c.s, p, e, c.p)
		}
		for _, more := range []int{1, 26, 70000} { // it stands behind: not looked at
			if p, e := ipwire.Parse(append(bytes.Clone(b), bytes.Repeat([]byte{0xee}, more)...)); !samePacket(p, c.p) || e != api.OK {
				t.Errorf("Parse(%s and %d octets) = %v, %d; want %v", c.s, more, p, e, c.p)
			}
		}
	}
}

// TestParseBit15P4_2: it is not looked at, but goes into the checksum.
func TestParseBit15P4_2(t *testing.T) {
	for _, c := range packets() {
		b := octetsOf(t, c.s)
		b[6] |= 0x80
		seal(b, int(b[0]&15)*4, 10)
		if p, e := ipwire.Parse(b); !samePacket(p, c.p) || e != api.OK {
			t.Errorf("Parse(%x) = %v, %d; want %v", b, p, e, c.p)
		}
	}
}

// TestParseEitherZeroP4_2: a checksum of 0 and one of 65535 stand for one another.
func TestParseEitherZeroP4_2(t *testing.T) {
	want := api.IP{TOS: 1, ID: 0xbaea}
	b := plainBuild(want)
	if b[10] != 0 || b[11] != 0 {
		t.Fatalf("the checksum is to be 0 here: %x", b)
	}
	for _, x := range []byte{0, 255} {
		b[10], b[11] = x, x
		if p, e := ipwire.Parse(b); !samePacket(p, want) || e != api.OK {
			t.Errorf("Parse(%x) = %v, %d; want %v", b, p, e, want)
		}
	}
}

// fault holds Parse against an error, beside which nothing is told.
func fault(t *testing.T, b []byte, want api.Errno) {
	t.Helper()
	if p, e := ipwire.Parse(b); e != want || !noPacket(p) {
		t.Errorf("Parse of %d octets, %.40x = %v, %d; want %d alone", len(b), b, p, e, want)
	}
}

func TestParseShortP4_2(t *testing.T) {
	fault(t, nil, api.ErrShort)
	whole := octetsOf(t, packets()[0].s)
	for size := range 20 {
		fault(t, whole[:size], api.ErrShort)
		fault(t, make([]byte, size), api.ErrShort) // ahead of ErrVersion
	}
	for size := 20; size < 22; size++ {
		fault(t, whole[:size], api.ErrLength)
	}
}

func TestParseVersionP4_2(t *testing.T) {
	for first := range 256 {
		b := octetsOf(t, packets()[0].s)
		b[0] = byte(first)
		seal(b, 20, 10)
		if first>>4 != 4 {
			fault(t, b, api.ErrVersion)
			b[2], b[3], b[10] = 255, 255, ^b[10] // ahead of ErrLength and ErrSum
			fault(t, b, api.ErrVersion)
		}
	}
}

// TestParseHeadersLengthP4_2: each length in words, of 20 to 64 octets.
func TestParseHeadersLengthP4_2(t *testing.T) {
	for size := 20; size <= 64; size++ {
		for words := range 16 {
			b := bytes.Repeat([]byte{1}, size)
			b[0], b[2], b[3] = byte(64+words), 0, byte(size)
			if words < 5 || 4*words > size {
				if words >= 5 {
					b = bytes.Repeat(b, 2)[:size] // what lies behind in memory makes no header
				}
				fault(t, b, api.ErrLength)
				continue
			}
			fault(t, b, api.ErrSum)
			seal(b, 4*words, 10)
			p, e := ipwire.Parse(b)
			if e != api.OK || !bytes.Equal(p.Options, b[20:4*words]) || !bytes.Equal(p.Data, b[4*words:]) {
				t.Fatalf("Parse of %d words in %d octets = %v, %d", words, size, p, e)
			}
		}
	}
}

// TestParseTotalLengthP4_2: each total length, of a header of 20 octets and of 28, in 40.
func TestParseTotalLengthP4_2(t *testing.T) {
	for _, words := range []int{5, 7} {
		for total := range 65536 {
			b := bytes.Repeat([]byte{7}, 40)
			b[0] = byte(64 + words)
			binary.BigEndian.PutUint16(b[2:], uint16(total))
			if total < 4*words || total > 40 {
				if _, e := ipwire.Parse(b); e != api.ErrLength { // ahead of ErrSum
					t.Fatalf("Parse of a total length of %d = %d; want ErrLength", total, e)
				}
			}
			seal(b, 4*words, 10)
			p, e := ipwire.Parse(b)
			if total < 4*words || total > 40 {
				if e != api.ErrLength || !noPacket(p) {
					t.Fatalf("Parse of a total length of %d = %v, %d; want ErrLength alone", total, p, e)
				}
			} else if e != api.OK || !bytes.Equal(p.Data, b[4*words:total]) {
				t.Fatalf("Parse of a total length of %d = %v, %d", total, p, e)
			}
		}
	}
}

// TestParseSumP4_2: the header alone, with its options, is under the checksum.
func TestParseSumP4_2(t *testing.T) {
	p := api.IP{ID: 7, TTL: 9, Proto: 6, Src: 1, Dst: 2, Options: []byte{1, 2, 3, 4, 5, 6, 7, 8}, Data: []byte{9, 10}}
	for at := range 30 {
		b := plainBuild(p)
		b[at] ^= 0x10
		switch {
		case at == 0: // no version, or a length of its own
		case at == 2 || at == 3:
			fault(t, b, api.ErrLength)
		case at < 28:
			fault(t, b, api.ErrSum)
		default:
			if got, e := ipwire.Parse(b); e != api.OK || got.Data[at-28] != p.Data[at-28]^0x10 {
				t.Errorf("Parse with another octet of Data at %d = %v, %d", at, got, e)
			}
		}
	}
}

// TestParseLongestP4_2: a packet may have MaxData octets.
func TestParseLongestP4_2(t *testing.T) {
	p := api.IP{Data: bytes.Repeat([]byte{3}, 65515)}
	if got, e := ipwire.Parse(plainBuild(p)); !samePacket(got, p) || e != api.OK {
		t.Errorf("Parse of 65535 octets = %d octets of Data, %d", len(got.Data), e)
	}
}

// messages gives messages with their octets written out.
func messages() []struct {
	m api.Icmp
	s string
} {
	return []struct {
		m api.Icmp
		s string
	}{
		{api.Icmp{}, "0000ffff 00000000"},
		{api.Icmp{Type: 8, Rest: 0x00010002, Data: []byte("hi")}, "08008f93 00010002 6869"},
		{api.Icmp{Type: 0x11, Code: 0x22, Rest: 0x33445566, Data: []byte{0x77}}, "1122ef32 33445566 77"},
		{api.Icmp{Type: 3, Code: 4, Rest: 1400}, "0304f783 00000578"},
		{api.Icmp{Type: 255, Code: 255, Rest: math.MaxUint32, Data: []byte{255, 255}}, "ffff0000 ffffffff ffff"},
	}
}

func TestBuildIcmpP4_3(t *testing.T) {
	for _, c := range messages() {
		if b, e := ipwire.BuildIcmp(c.m); !bytes.Equal(b, octetsOf(t, c.s)) || e != api.OK {
			t.Errorf("BuildIcmp(%v) = %x, %d; want %s", c.m, b, e, c.s)
		}
	}
	for _, size := range []int{65528, 65529, 1 << 20} {
		if b, e := ipwire.BuildIcmp(api.Icmp{Type: 1, Code: 2, Rest: 3, Data: make([]byte, size)}); len(b) != 0 || e != api.ErrLong {
			t.Errorf("BuildIcmp of %d octets = %d octets, %d; want ErrLong alone", size, len(b), e)
		}
	}
	if b, e := ipwire.BuildIcmp(api.Icmp{Data: make([]byte, 65527)}); len(b) != 65535 || e != api.OK {
		t.Errorf("BuildIcmp of 65527 octets = %d octets, %d", len(b), e)
	}
}

func TestParseIcmpP4_3(t *testing.T) {
	for _, c := range messages() {
		if m, e := ipwire.ParseIcmp(octetsOf(t, c.s)); !sameMessage(m, c.m) || e != api.OK {
			t.Errorf("ParseIcmp(%s) = %v, %d; want %v", c.s, m, e, c.m)
		}
	}
	if m, e := ipwire.ParseIcmp(nil); !noMessage(m) || e != api.ErrShort {
		t.Errorf("ParseIcmp(nil) = %v, %d; want ErrShort alone", m, e)
	}
	for size := range 8 { // short is told though they are right, too
		if m, e := ipwire.ParseIcmp(bytes.Repeat([]byte{255}, size)); !noMessage(m) || e != api.ErrShort {
			t.Errorf("ParseIcmp of %d octets = %v, %d; want ErrShort alone", size, m, e)
		}
	}
}

// TestParseIcmpSumP4_3: all octets are under the checksum, an odd last one too.
func TestParseIcmpSumP4_3(t *testing.T) {
	for _, c := range messages() {
		for at := range len(c.s)/2 - 1 {
			b := octetsOf(t, c.s)
			b[at] ^= 0x04
			if m, e := ipwire.ParseIcmp(b); !noMessage(m) || e != api.ErrSum {
				t.Errorf("ParseIcmp(%x) = %v, %d; want ErrSum alone", b, m, e)
			}
		}
	}
	for size := 8; size < 40; size++ {
		if m, e := ipwire.ParseIcmp(make([]byte, size)); !noMessage(m) || e != api.ErrSum {
			t.Errorf("ParseIcmp of %d zeros = %v, %d; want ErrSum alone", size, m, e)
		}
	}
}

// TestParseIcmpOfAnyLengthP4_3: of ParseIcmp the chapter names no length that is too long.
func TestParseIcmpOfAnyLengthP4_3(t *testing.T) {
	for _, size := range []int{8, 9, 65535, 65536, 70001} {
		b := bytes.Repeat([]byte{5}, size)
		seal(b, size, 2)
		want := api.Icmp{Type: 5, Code: 5, Rest: 0x05050505, Data: b[8:]}
		if m, e := ipwire.ParseIcmp(b); !sameMessage(m, want) || e != api.OK {
			t.Errorf("ParseIcmp of %d octets = %d octets of Data, %d", size, len(m.Data), e)
		}
	}
}

func TestThereAndBackP4_4(t *testing.T) {
	r := rand.New(rand.NewSource(2))
	for range 5000 {
		p := anyPacket(r)
		b, e := ipwire.Build(p)
		if got, back := ipwire.Parse(b); !samePacket(got, p) || e != api.OK || back != api.OK {
			t.Fatalf("Parse(Build(%v)) = %v, %d, %d", p, got, e, back)
		}
		m := api.Icmp{Type: byte(r.Intn(256)), Code: byte(r.Intn(256)), Rest: r.Uint32(), Data: p.Data}
		b, e = ipwire.BuildIcmp(m)
		if got, back := ipwire.ParseIcmp(b); !sameMessage(got, m) || e != api.OK || back != api.OK {
			t.Fatalf("ParseIcmp(BuildIcmp(%v)) = %v, %d, %d", m, got, e, back)
		}
	}
}

// TestBackAndThereP4_4: any header that Parse takes is Build of it, but for bit 15; what was not looked at stands behind.
func TestBackAndThereP4_4(t *testing.T) {
	r := rand.New(rand.NewSource(3))
	for range 5000 {
		b := make([]byte, 60+r.Intn(40))
		r.Read(b)
		words := 5 + r.Intn(11)
		total := 4*words + r.Intn(len(b)-4*words+1)
		b[0], b[6] = byte(64+words), b[6]&0x7f
		binary.BigEndian.PutUint16(b[2:], uint16(total))
		seal(b, 4*words, 10)
		p, e := ipwire.Parse(b)
		got, back := ipwire.Build(p)
		if !bytes.Equal(append(got, b[total:]...), b) || e != api.OK || back != api.OK {
			t.Fatalf("Build(Parse(%x)) = %x, %d, %d", b, got, e, back)
		}
		seal(b, len(b), 2)
		m, e := ipwire.ParseIcmp(b)
		if got, back := ipwire.BuildIcmp(m); !bytes.Equal(got, b) || e != api.OK || back != api.OK {
			t.Fatalf("BuildIcmp(ParseIcmp(%x)) = %x, %d, %d", b, got, e, back)
		}
	}
}

// TestOneBitP4_5: one bit of a header of 20 octets turned, but of its own length, is told.
func TestOneBitP4_5(t *testing.T) {
	r := rand.New(rand.NewSource(4))
	for range 300 {
		p := anyPacket(r)
		p.Options = nil
		b, _ := ipwire.Build(p)
		for bit := range 160 {
			if bit >= 4 && bit < 8 {
				continue
			}
			b[bit/8] ^= 0x80 >> (bit % 8)
			got, e := ipwire.Parse(b)
			told := e == api.ErrSum || bit < 4 && e == api.ErrVersion || bit/16 == 1 && e == api.ErrLength
			if !told || !noPacket(got) {
				t.Fatalf("bit %d of %x turned: %v, %d", bit, b, got, e)
			}
			b[bit/8] ^= 0x80 >> (bit % 8)
		}
	}
}

// TestArgumentsStayP4_6: what is handed in is not changed, nor what lies behind it in the same memory (P2).
func TestArgumentsStayP4_6(t *testing.T) {
	whole := append(plainBuild(api.IP{Options: []byte{1, 2, 3, 4}, Data: []byte{5, 6, 7, 8}}), 9, 10, 11, 12)
	before := bytes.Clone(whole)
	for size := range len(whole) + 1 {
		p := api.IP{Options: whole[:size/4*4], Data: whole[:size]}
		ipwire.Parse(whole[:size])
		ipwire.ParseIcmp(whole[:size])
		ipwire.Check(p)
		ipwire.Build(p)
		ipwire.BuildIcmp(api.Icmp{Data: whole[:size]})
		if !bytes.Equal(whole, before) {
			t.Fatalf("an argument of %d octets was changed: %x", size, whole)
		}
	}
}

// TestAnswersAreNewP4_6: changing an argument or an answer changes no other answer, nor do two lists of one answer share memory (P2).
func TestAnswersAreNewP4_6(t *testing.T) {
	want := api.IP{Options: []byte{1, 2, 3, 4}, Data: []byte{5, 6, 7, 8}}
	in := plainBuild(want)
	p, _ := ipwire.Parse(in)
	other, _ := ipwire.Parse(in)
	clear(in)
	if !samePacket(p, want) {
		t.Errorf("Parse keeps its argument: %v", p)
	}
	for i := range p.Options[:cap(p.Options)] {
		p.Options[:cap(p.Options)][i] = 99
	}
	if !bytes.Equal(p.Data, want.Data) || !samePacket(other, want) {
		t.Errorf("lists of answers of Parse share memory: %v, %v", p, other)
	}
	message := octetsOf(t, messages()[1].s)
	m, _ := ipwire.ParseIcmp(message)
	second, _ := ipwire.ParseIcmp(message)
	clear(message)
	if !sameMessage(m, messages()[1].m) {
		t.Errorf("ParseIcmp keeps its argument: %v", m)
	}
	clear(m.Data[:cap(m.Data)])
	if !sameMessage(second, messages()[1].m) {
		t.Errorf("two answers of ParseIcmp share memory: %v", second)
	}
}

func TestBuiltIsNewP4_6(t *testing.T) {
	p := api.IP{Options: []byte{1, 2, 3, 4}, Data: []byte{5, 6, 7, 8}}
	for name, call := range map[string]func() ([]byte, api.Errno){
		"Build":     func() ([]byte, api.Errno) { return ipwire.Build(p) },
		"BuildIcmp": func() ([]byte, api.Errno) { return ipwire.BuildIcmp(api.Icmp{Type: 8, Data: p.Data}) },
	} {
		first, _ := call()
		second, _ := call()
		want := bytes.Clone(first)
		clear(first[:cap(first)])
		third, _ := call()
		if !bytes.Equal(second, want) || !bytes.Equal(third, want) || !bytes.Equal(p.Data, []byte{5, 6, 7, 8}) {
			t.Errorf("%s: answers share memory: %x, %x, %v", name, second, third, p)
		}
	}
}

// TestNothingIsKeptP3: a call answers the same whatever was asked, and refused, between.
func TestNothingIsKeptP3(t *testing.T) {
	all := func() []any {
		r := rand.New(rand.NewSource(5))
		var out []any
		for range 100 {
			p := anyPacket(r)
			b, e := ipwire.Build(p)
			got, back := ipwire.Parse(b)
			m, none := ipwire.BuildIcmp(api.Icmp{Type: 1, Code: 2, Rest: 3, Data: b})
			told, last := ipwire.ParseIcmp(m)
			out = append(out, b, e, got, back, m, none, told, last, ipwire.Check(p))
		}
		return out
	}
	first := all()
	ipwire.Build(api.IP{Offset: 1})
	ipwire.Parse(make([]byte, 20))
	ipwire.ParseIcmp(make([]byte, 8))
	ipwire.BuildIcmp(api.Icmp{Data: make([]byte, 70000)})
	if !reflect.DeepEqual(all(), first) {
		t.Error("the same calls answered otherwise")
	}
}

// FuzzOctets: no octets make a call panic, and what is taken is what is built of it (P1, P4.4).
func FuzzOctets(f *testing.F) {
	f.Add([]byte(nil))
	f.Add(plainBuild(api.IP{Data: []byte("hi")}))
	f.Add(plainBuild(api.IP{Options: []byte{1, 2, 3, 4}, MF: true, Offset: 8}))
	f.Add([]byte("\x08\x00\xf7\xff\x00\x00\x00\x00"))
	f.Fuzz(func(t *testing.T, b []byte) {
		parse := func() {
			p, e := ipwire.Parse(b)
			if e != api.OK {
				if !noPacket(p) {
					t.Errorf("Parse(%x) = %v beside %d", b, p, e)
				}
				return
			}
			got, back := ipwire.Build(p)
			size := len(got)
			whole := bytes.Clone(b)
			whole[6] &= 0x7f
			seal(whole, int(whole[0]&15)*4, 10)
			if back != api.OK || !bytes.Equal(got, whole[:size]) {
				t.Errorf("Build(Parse(%x)) = %x, %d", b, got, back)
			}
		}
		parse()
		if len(b) >= 20 { // few octets have a right header of themselves
			b = bytes.Clone(b)
			seal(b, min(max(20, int(b[0]&15)*4), len(b)), 10)
			parse()
		}
		m, e := ipwire.ParseIcmp(b)
		if e == api.OK != (len(b) >= 8 && checksum.Right(b)) || e != api.OK && !noMessage(m) {
			t.Errorf("ParseIcmp(%x) = %v, %d", b, m, e)
		}
	})
}
