package tcpwire_test

import (
	"bytes"
	"encoding/binary"
	"encoding/hex"
	"math"
	"math/rand"
	"reflect"
	"slices"
	"strings"
	"testing"

	"stopcock/api"
	"stopcock/tcpwire"
)

const (
	src = 0x0a000001
	dst = 0xc0a80102
)

// octetsOf reads hexadecimal digits, with spaces between for the eye.
func octetsOf(t *testing.T, s string) []byte {
	t.Helper()
	b, err := hex.DecodeString(strings.ReplaceAll(s, " ", ""))
	if err != nil {
		t.Fatal(err)
	}
	return b
}

// same holds two segments against each other: no octets or blocks and empty lists of them are one.
func same(a, b api.Tcp) bool {
	for _, s := range []*api.Tcp{&a, &b} {
		s.Data = append([]byte(nil), s.Data...)
		s.Sacks = append([]api.Block(nil), s.Sacks...)
	}
	return reflect.DeepEqual(a, b)
}

func none(s api.Tcp) bool { return same(s, api.Tcp{}) }

// seal lays the checksum of b with the addresses, worked out without the program.
func seal(b []byte, from, to uint32) []byte {
	b[16], b[17] = 0, 0
	sum := int(from>>16) + int(from&65535) + int(to>>16) + int(to&65535) + 6 + len(b)
	for i, x := range b {
		sum += int(x) << (8 - i%2*8)
	}
	for sum > 65535 {
		sum = sum>>16 + sum&65535
	}
	binary.BigEndian.PutUint16(b[16:], uint16(65535-sum))
	return b
}

// plainOptions lays a segment's options without the program.
func plainOptions(s api.Tcp) []byte {
	var b []byte
	if s.MSS > 0 {
		b = append(b, 2, 4, byte(s.MSS>>8), byte(s.MSS))
	}
	if s.HasScale {
		b = append(b, 1, 3, 3, byte(s.Scale))
	}
	if s.SackOK {
		b = append(b, 1, 1, 4, 2)
	}
	if s.HasTS {
		b = binary.BigEndian.AppendUint32(append(b, 1, 1, 8, 10), s.TSVal)
		b = binary.BigEndian.AppendUint32(b, s.TSEcr)
	}
	if len(s.Sacks) > 0 {
		b = append(b, 1, 1, 5, []byte{2, 10, 18, 26, 34}[len(s.Sacks)])
	}
	for _, x := range s.Sacks {
		b = binary.BigEndian.AppendUint32(b, x.Left)
		b = binary.BigEndian.AppendUint32(b, x.Right)
	}
	return b
}

// laid puts a segment's octets together of its header's fields, the octets of its options and Data.
func laid(s api.Tcp, options []byte, from, to uint32) []byte {
	b := binary.BigEndian.AppendUint16(nil, s.SrcPort)
	b = binary.BigEndian.AppendUint16(b, s.DstPort)
	b = binary.BigEndian.AppendUint32(b, s.Seq)
	b = binary.BigEndian.AppendUint32(b, s.Ack)
	b = append(b, byte(80+len(options)/4*16), s.Flags)
	b = binary.BigEndian.AppendUint16(b, s.Window)
	b = append(b, 0, 0)
	b = binary.BigEndian.AppendUint16(b, s.Urgent)
	b = append(b, options...)
	b = append(b, s.Data...)
	return seal(b, from, to)
}

// plain gives a segment of fields that all differ, without options.
func plain() api.Tcp {
	return api.Tcp{SrcPort: 0x0102, DstPort: 0x0304, Seq: 0x05060708, Ack: 0x090a0b0c, Flags: 0x18, Window: 0x0e0f, Urgent: 0x1213, Data: []byte("hi")}
}

// anySegment gives a segment that may be: its options have at most 40 octets.
func anySegment(r *rand.Rand) api.Tcp {
	for {
		s := api.Tcp{
			SrcPort: uint16(r.Intn(65536)), DstPort: uint16(r.Intn(65536)), Seq: r.Uint32(), Ack: r.Uint32() >> r.Intn(32),
			Flags: byte(r.Intn(256)), Window: uint16(r.Intn(65536)), Urgent: uint16(r.Intn(65536)),
			SackOK: r.Intn(2) == 0, HasTS: r.Intn(2) == 0, HasScale: r.Intn(2) == 0,
			Data: make([]byte, r.Intn(100)*(1+r.Intn(16))),
		}
		r.Read(s.Data)
		if s.HasTS {
			s.TSVal, s.TSEcr = r.Uint32()>>r.Intn(32), r.Uint32()>>r.Intn(32)
		}
		if s.HasScale {
			s.Scale = r.Intn(256)
		}
		if r.Intn(2) == 0 {
			s.MSS = r.Intn(65536)
		}
		for range r.Intn(5) {
			s.Sacks = append(s.Sacks, api.Block{Left: r.Uint32(), Right: r.Uint32()})
		}
		if len(plainOptions(s)) <= 40 {
			return s
		}
	}
}

// checked holds Check and Build of s against an error that both tell.
func checked(t *testing.T, s api.Tcp, want api.Errno) {
	t.Helper()
	if e := tcpwire.Check(s); e != want {
		t.Errorf("Check of %d octets, %+v = %d; want %d", len(s.Data), s.Sacks, e, want)
	}
	b, e := tcpwire.Build(s, src, dst)
	if e != want || (len(b) == 0) != (want != api.OK) {
		t.Errorf("Build of %d octets = %d octets, %d; want %d", len(s.Data), len(b), e, want)
	}
}

func blocks(n int) []api.Block {
	out := make([]api.Block, n)
	for i := range out {
		out[i] = api.Block{Left: uint32(0x01020304 + i), Right: uint32(0xf1f2f3f4 + i)}
	}
	return out
}

func TestCheckRangeP5_1(t *testing.T) {
	for _, c := range []struct {
		s    api.Tcp
		want api.Errno
	}{
		{api.Tcp{}, api.OK},
		{api.Tcp{MSS: 1}, api.OK},
		{api.Tcp{MSS: 65535}, api.OK},
		{api.Tcp{MSS: 65536}, api.ErrRange},
		{api.Tcp{MSS: -1}, api.ErrRange},
		{api.Tcp{MSS: math.MinInt}, api.ErrRange},
		{api.Tcp{MSS: math.MaxInt}, api.ErrRange},
		{api.Tcp{HasScale: true}, api.OK},
		{api.Tcp{HasScale: true, Scale: 255}, api.OK},
		{api.Tcp{HasScale: true, Scale: 256}, api.ErrRange},
		{api.Tcp{HasScale: true, Scale: -1}, api.ErrRange},
		{api.Tcp{HasScale: true, Scale: math.MaxInt}, api.ErrRange},
		{api.Tcp{HasScale: true, Scale: math.MinInt}, api.ErrRange},
		{api.Tcp{Scale: 1}, api.ErrRange},
		{api.Tcp{Scale: -1}, api.ErrRange},
		{api.Tcp{HasTS: true}, api.OK},
		{api.Tcp{HasTS: true, TSVal: math.MaxUint32, TSEcr: math.MaxUint32}, api.OK},
		{api.Tcp{TSVal: 1}, api.ErrRange},
		{api.Tcp{TSEcr: 1}, api.ErrRange},
		{api.Tcp{TSVal: math.MaxUint32, TSEcr: math.MaxUint32}, api.ErrRange},
		{api.Tcp{SackOK: true, Flags: 255}, api.OK},
	} {
		checked(t, c.s, c.want)
	}
}

func TestCheckBlocksP5_1(t *testing.T) {
	for n := range 5 {
		checked(t, api.Tcp{Sacks: blocks(n)}, api.OK)
	}
	checked(t, api.Tcp{Sacks: []api.Block{}}, api.OK)
	for _, n := range []int{5, 6, 33, 70000} {
		checked(t, api.Tcp{Sacks: blocks(n)}, api.ErrCount)
	}
}

// TestCheckOptionsP5_1: all sets of options, and how many octets they have.
func TestCheckOptionsP5_1(t *testing.T) {
	for set := range 16 {
		for n := range 5 {
			s := api.Tcp{MSS: set & 1, HasScale: set&2 > 0, SackOK: set&4 > 0, HasTS: set&8 > 0, Sacks: blocks(n)}
			want := api.OK
			if len(plainOptions(s)) > 40 {
				want = api.ErrOption
			}
			checked(t, s, want)
			s.Data = make([]byte, 65536)
			if want == api.OK {
				want = api.ErrLong
			}
			checked(t, s, want)
		}
	}
}

func TestCheckLongestP5_1(t *testing.T) {
	for _, s := range []api.Tcp{{}, {MSS: 1460}, {MSS: 1460, Sacks: blocks(4)}, {HasTS: true, Sacks: blocks(3)}} {
		most := 65535 - 20 - len(plainOptions(s))
		s.Data = make([]byte, most)
		checked(t, s, api.OK)
		if b, _ := tcpwire.Build(s, src, dst); len(b) != 65535 {
			t.Errorf("Build of %d octets of Data has %d", most, len(b))
		}
		s.Data = make([]byte, most+1)
		checked(t, s, api.ErrLong)
	}
}

// TestOrderOfErrorsP5_1: the first that the chapter names is told (P4).
func TestOrderOfErrorsP5_1(t *testing.T) {
	long := make([]byte, 70000)
	full := api.Tcp{MSS: 1, HasScale: true, SackOK: true, HasTS: true, Data: long}
	checked(t, full, api.ErrLong)
	full.Sacks = blocks(4)
	checked(t, full, api.ErrOption)
	full.Sacks = blocks(5)
	checked(t, full, api.ErrCount)
	for _, spoil := range []func(*api.Tcp){
		func(s *api.Tcp) { s.MSS = -1 },
		func(s *api.Tcp) { s.Scale = 256 },
		func(s *api.Tcp) { s.HasScale, s.Scale = false, 1 },
		func(s *api.Tcp) { s.HasTS, s.TSVal = false, 1 },
		func(s *api.Tcp) { s.HasTS, s.TSEcr = false, 1 },
	} {
		s := full
		spoil(&s)
		checked(t, s, api.ErrRange)
	}
}

// TestBuildP5_1: segments with their octets written out, between 0a000001 and c0a80102.
func TestBuildP5_1(t *testing.T) {
	all := plain()
	all.MSS, all.HasScale, all.Scale, all.SackOK, all.HasTS, all.TSVal, all.TSEcr = 0x0203, true, 7, true, true, 0x21222324, 0x25262728
	told := plain()
	told.Data = nil
	told.HasTS, told.TSVal, told.TSEcr = true, 1, 2
	told.Sacks = []api.Block{{Left: 0x31323334, Right: 0x35363738}, {Left: math.MaxUint32, Right: 0}}
	for _, c := range []struct {
		s    api.Tcp
		want string
	}{
		{api.Tcp{}, "0000 0000 00000000 00000000 50 00 0000 e439 0000"},
		{plain(), "0102 0304 05060708 090a0b0c 50 18 0e0f 376a 1213 6869"},
		{all, "0102 0304 05060708 090a0b0c b0 18 0e0f 309e 1213 02040203 01030307 01010402 0101080a 21222324 25262728 6869"},
		{told, "0102 0304 05060708 090a0b0c d0 18 0e0f 3fbf 1213 0101080a 00000001 00000002 01010512 31323334 35363738 ffffffff 00000000"},
		{api.Tcp{Flags: 255, HasScale: true}, "0000 0000 00000000 00000000 60 ff 0000 cf33 0000 01030300"},
	} {
		want := octetsOf(t, c.want)
		if b, e := tcpwire.Build(c.s, src, dst); !bytes.Equal(b, want) || e != api.OK {
			t.Errorf("Build(%+v) = %x, %d; want %x", c.s, b, e, want)
		}
		if s, e := tcpwire.Parse(want, src, dst); !same(s, c.s) || e != api.OK {
			t.Errorf("Parse(%x) = %+v, %d; want %+v", want, s, e, c.s)
		}
	}
}

// TestBuildExampleP5_1: a SYN with MSS 1460, Scale 7, SackOK, TS has 44 octets.
func TestBuildExampleP5_1(t *testing.T) {
	s := api.Tcp{Flags: api.SYN, MSS: 1460, HasScale: true, Scale: 7, SackOK: true, HasTS: true}
	if b, e := tcpwire.Build(s, src, dst); len(b) != 44 || e != api.OK {
		t.Errorf("Build(%+v) = %x, %d; want 44 octets", s, b, e)
	}
}

func TestBuildOfAllKindsP5_1(t *testing.T) {
	r := rand.New(rand.NewSource(1))
	for range 5000 {
		s, from, to := anySegment(r), r.Uint32(), r.Uint32()>>r.Intn(32)
		want := laid(s, plainOptions(s), from, to)
		if b, e := tcpwire.Build(s, from, to); !bytes.Equal(b, want) || e != api.OK || tcpwire.Check(s) != api.OK {
			t.Fatalf("Build(%+v, %x, %x) = %x, %d; want %x", s, from, to, b, e, want)
		}
	}
}

// fault holds Parse against an error, beside which nothing is told.
func fault(t *testing.T, b []byte, want api.Errno) {
	t.Helper()
	if s, e := tcpwire.Parse(b, src, dst); e != want || !none(s) {
		t.Errorf("Parse of %d octets, %.64x = %+v, %d; want %d alone", len(b), b, s, e, want)
	}
}

func TestParseLengthsP5_2(t *testing.T) {
	fault(t, nil, api.ErrShort)
	whole := laid(plain(), nil, src, dst)
	for size := range 20 {
		fault(t, whole[:size], api.ErrShort)
		fault(t, make([]byte, size), api.ErrShort)
	}
	s := plain()
	s.Data = bytes.Repeat([]byte{7}, 65515)
	if got, e := tcpwire.Parse(laid(s, nil, src, dst), src, dst); !same(got, s) || e != api.OK {
		t.Errorf("Parse of 65535 octets = %d octets of Data, %d", len(got.Data), e)
	}
	for _, size := range []int{65536, 65537, 1 << 20} {
		fault(t, seal(bytes.Repeat([]byte{0x50}, size), src, dst), api.ErrLong)
		fault(t, make([]byte, size), api.ErrLong) // ahead of ErrLength and ErrSum
	}
}

// TestParseHeadersLengthP5_2: each length in words, of 20 to 64 octets.
func TestParseHeadersLengthP5_2(t *testing.T) {
	for size := 20; size <= 64; size++ {
		for words := range 16 {
			b := bytes.Repeat([]byte{1}, size)
			b[12] = byte(words * 16)
			want := api.OK
			if words < 5 || 4*words > size {
				want = api.ErrLength
				fault(t, b, api.ErrLength) // ahead of ErrSum
			} else {
				fault(t, b, api.ErrSum)
			}
			s, e := tcpwire.Parse(seal(b, src, dst), src, dst)
			if e != want || e == api.OK && !bytes.Equal(s.Data, b[4*words:]) || e != api.OK && !none(s) {
				t.Fatalf("Parse of %d words in %d octets = %+v, %d", words, size, s, e)
			}
		}
	}
}

// TestParseSumP5_2: the addresses, the length and all octets are under the checksum.
func TestParseSumP5_2(t *testing.T) {
	whole := laid(plain(), []byte{1, 3, 3, 4}, src, dst)
	if s, e := tcpwire.Parse(whole, dst, src); e != api.OK || s.Scale != 4 {
		t.Errorf("Parse with the addresses turned round = %+v, %d: they are added", s, e)
	}
	for bit := range 32 {
		for _, way := range [][2]uint32{{src ^ 1<<bit, dst}, {src, dst ^ 1<<bit}} {
			if s, e := tcpwire.Parse(whole, way[0], way[1]); e != api.ErrSum || !none(s) {
				t.Errorf("Parse from %x to %x = %+v, %d; want ErrSum alone", way[0], way[1], s, e)
			}
		}
	}
	fault(t, append(bytes.Clone(whole), 0), api.ErrSum)
	fault(t, append(bytes.Clone(whole), 0, 0), api.ErrSum)
	fault(t, whole[:len(whole)-1], api.ErrSum)
	bad := laid(plain(), []byte{2, 3, 3, 4}, src, dst)
	fault(t, bad, api.ErrOption)
	bad[0]++
	fault(t, bad, api.ErrSum) // ahead of ErrOption
}

// TestParseEitherZeroP5_2: a checksum of 0 and one of 65535 stand for one another.
func TestParseEitherZeroP5_2(t *testing.T) {
	s := api.Tcp{Window: 0xe439}
	b := laid(s, nil, src, dst)
	if b[16] != 0 || b[17] != 0 {
		t.Fatalf("the checksum is to be 0 here: %x", b)
	}
	for _, x := range []byte{0, 255} {
		b[16], b[17] = x, x
		if got, e := tcpwire.Parse(b, src, dst); !same(got, s) || e != api.OK {
			t.Errorf("Parse(%x) = %+v, %d; want %+v", b, got, e, s)
		}
	}
}

// TestParseOfBitsP5_2: the four bits behind the header's length are not looked at; all flags are told.
func TestParseOfBitsP5_2(t *testing.T) {
	for x := range 256 {
		want := plain()
		want.Flags = byte(x)
		b := laid(want, nil, src, dst)
		b[12] |= byte(x & 15)
		if s, e := tcpwire.Parse(seal(b, src, dst), src, dst); !same(s, want) || e != api.OK {
			t.Errorf("Parse(%x) = %+v, %d; want %+v", b, s, e, want)
		}
	}
}

// read parses a segment with these octets of options, filled up with zeros to a word.
func read(options []byte) (api.Tcp, api.Errno) {
	for len(options)%4 != 0 {
		options = append(slices.Clip(options), 0)
	}
	return tcpwire.Parse(laid(plain(), options, src, dst), src, dst)
}

func TestParseOptionsP5_2(t *testing.T) {
	for _, c := range []struct {
		options string
		want    func(s *api.Tcp)
	}{
		{"", func(*api.Tcp) {}},
		{"00000000", func(*api.Tcp) {}},
		{"01010101", func(*api.Tcp) {}},
		{"020405b4", func(s *api.Tcp) { s.MSS = 1460 }},
		{"0204ffff", func(s *api.Tcp) { s.MSS = 65535 }},
		{"0303ff", func(s *api.Tcp) { s.HasScale, s.Scale = true, 255 }},
		{"030300", func(s *api.Tcp) { s.HasScale = true }},
		{"0402", func(s *api.Tcp) { s.SackOK = true }},
		{"080a 01020304 05060708", func(s *api.Tcp) { s.HasTS, s.TSVal, s.TSEcr = true, 0x01020304, 0x05060708 }},
		{"080a 00000000 00000000", func(s *api.Tcp) { s.HasTS = true }},
		{"050a 01020304 05060708", func(s *api.Tcp) { s.Sacks = []api.Block{{Left: 0x01020304, Right: 0x05060708}} }},
		{"0512 00000001 00000002 00000003 00000004", func(s *api.Tcp) { s.Sacks = []api.Block{{Left: 1, Right: 2}, {Left: 3, Right: 4}} }},
		{"051a 00000001 00000002 00000003 00000004 00000005 00000006", func(s *api.Tcp) {
			s.Sacks = []api.Block{{Left: 1, Right: 2}, {Left: 3, Right: 4}, {Left: 5, Right: 6}}
		}},
		{"0522 00000001 00000002 00000003 00000004 00000005 00000006 00000007 00000008", func(s *api.Tcp) {
			s.Sacks = []api.Block{{Left: 1, Right: 2}, {Left: 3, Right: 4}, {Left: 5, Right: 6}, {Left: 7, Right: 8}}
		}},
		// in another order, each behind the other, and all 40 octets of them
		{"030302 0402 080a 00000001 00000002 02040003 050a 00000004 00000005 0101 fe07 0000000000", func(s *api.Tcp) {
			s.MSS, s.HasScale, s.Scale, s.SackOK, s.HasTS, s.TSVal, s.TSEcr = 3, true, 2, true, true, 1, 2
			s.Sacks = []api.Block{{Left: 4, Right: 5}}
		}},
		// an end: what stands behind is not looked at
		{"00020405", func(*api.Tcp) {}},
		{"0402 00 02", func(s *api.Tcp) { s.SackOK = true }},
		{"0101 00 ff 0201 0800", func(*api.Tcp) {}},
		// other kinds are passed, whatever they hold, however long they are
		{"0602", func(*api.Tcp) {}},
		{"0703 02 0402", func(s *api.Tcp) { s.SackOK = true }},
		{"ff06 04020402 02040009", func(s *api.Tcp) { s.MSS = 9 }},
		{"0928" + strings.Repeat("02", 38), func(*api.Tcp) {}},
		{"0a02 0a03 07 0a02 030301", func(s *api.Tcp) { s.HasScale, s.Scale = true, 1 }},
		// of several of one kind the first counts
		{"02040001 02040002 02040003", func(s *api.Tcp) { s.MSS = 1 }},
		{"030301 030302", func(s *api.Tcp) { s.HasScale, s.Scale = true, 1 }},
		{"030300 030302", func(s *api.Tcp) { s.HasScale = true }},
		{"0402 0402", func(s *api.Tcp) { s.SackOK = true }},
		{"080a 00000001 00000002 080a 00000003 00000004", func(s *api.Tcp) { s.HasTS, s.TSVal, s.TSEcr = true, 1, 2 }},
		{"080a 00000000 00000000 080a 00000003 00000004", func(s *api.Tcp) { s.HasTS = true }},
		{"050a 00000001 00000002 0512 00000003 00000004 00000005 00000006", func(s *api.Tcp) { s.Sacks = []api.Block{{Left: 1, Right: 2}} }},
		// an MSS of 0 is as none, but counts
		{"02040000", func(*api.Tcp) {}},
		{"02040000 020405b4", func(*api.Tcp) {}},
	} {
		want := plain()
		c.want(&want)
		if s, e := read(octetsOf(t, c.options)); !same(s, want) || e != api.OK {
			t.Errorf("Parse of options %s = %+v, %d; want %+v", c.options, s, e, want)
		}
	}
}

func TestParseWrongOptionsP5_2(t *testing.T) {
	for _, options := range []string{
		// no length: the header ends, behind nothing, behind another option
		"01010102", "010101fe", "02040001 01010108",
		// a length below 2
		"0200", "0201", "fe00", "fe01 0000",
		// a length beyond the header, by one, by more
		"0101 fe03", "fe05 0000", "01fe 0300 0101 ff0c", "01010204", "feff" + strings.Repeat("00", 38),
		// MSS, Scale, SackOK, TS of another length
		"0202", "0203 00", "0205 000000", "02050001 00",
		"0302", "0304 0000", "0305 000000",
		"0403 00", "0404 0000", "0406 00000000",
		"0802", "0809" + strings.Repeat("00", 7), "080b" + strings.Repeat("00", 9), "0812" + strings.Repeat("00", 16),
		// Sacks of no block, of parts of one, of more than four
		"0502", "0503 00", "0509" + strings.Repeat("00", 7), "050b" + strings.Repeat("00", 9), "0511" + strings.Repeat("00", 15),
		"0513" + strings.Repeat("00", 17), "0521" + strings.Repeat("00", 31), "0523" + strings.Repeat("00", 33),
		"0528" + strings.Repeat("00", 38),
		// a second one of a kind does not count, but is wrong all the same
		"0402 0403 00", "02040001 0203 00", "02040000 0205 000000",
	} {
		b := octetsOf(t, options)
		if s, e := read(b); e != api.ErrOption || !none(s) {
			t.Errorf("Parse of options %s = %+v, %d; want ErrOption alone", options, s, e)
		}
	}
}

// TestParseEveryLengthP5_2: each kind with each length, alone in 40 octets of options.
func TestParseEveryLengthP5_2(t *testing.T) {
	lengths := map[int][]int{2: {4}, 3: {3}, 4: {2}, 8: {10}, 5: {10, 18, 26, 34}}
	for kind := 2; kind < 256; kind++ {
		for size := range 256 {
			options := make([]byte, 40)
			options[0], options[1] = byte(kind), byte(size)
			may := size >= 2 && size <= 40
			if known := lengths[kind]; known != nil {
				may = slices.Contains(known, size)
			}
			if _, e := read(options); (e == api.OK) != may || e != api.OK && e != api.ErrOption {
				t.Fatalf("Parse of kind %d with length %d = %d", kind, size, e)
			}
		}
	}
}

// plainRead reads options without the program: places, kinds that were there, an error.
func plainRead(options []byte, s *api.Tcp) api.Errno {
	var there []byte
	for at := 0; at < len(options); {
		kind := options[at]
		if kind == 0 {
			break
		}
		if kind == 1 {
			at++
			continue
		}
		if at+1 == len(options) || options[at+1] < 2 || at+int(options[at+1]) > len(options) {
			return api.ErrOption
		}
		size := int(options[at+1])
		body := options[at+2 : at+size]
		at += size
		switch {
		case kind == 2 && size != 4, kind == 3 && size != 3, kind == 4 && size != 2, kind == 8 && size != 10:
			return api.ErrOption
		case kind == 5 && size != 10 && size != 18 && size != 26 && size != 34:
			return api.ErrOption
		}
		if bytes.IndexByte(there, kind) >= 0 {
			continue
		}
		there = append(there, kind)
		switch kind {
		case 2:
			s.MSS = int(binary.BigEndian.Uint16(body))
		case 3:
			s.HasScale, s.Scale = true, int(body[0])
		case 4:
			s.SackOK = true
		case 5:
			for ; len(body) > 0; body = body[8:] {
				s.Sacks = append(s.Sacks, api.Block{Left: binary.BigEndian.Uint32(body), Right: binary.BigEndian.Uint32(body[4:])})
			}
		case 8:
			s.HasTS, s.TSVal, s.TSEcr = true, binary.BigEndian.Uint32(body), binary.BigEndian.Uint32(body[4:])
		}
	}
	return api.OK
}

// TestParseAnyOptionsP5_2: options thrown together, mostly of kinds and lengths that are near right ones.
func TestParseAnyOptionsP5_2(t *testing.T) {
	r := rand.New(rand.NewSource(2))
	kinds, sizes := []byte{0, 1, 2, 3, 4, 5, 8, 8, 5, 9, 254}, map[byte]int{2: 4, 3: 3, 4: 2, 8: 10, 9: 5}
	told := map[api.Errno]int{}
	for range 50000 {
		var options []byte
		for range 1 + r.Intn(6) {
			kind := kinds[r.Intn(len(kinds))]
			size := sizes[kind]
			if kind == 5 {
				size = 2 + 8*(1+r.Intn(4))
			}
			if r.Intn(12) == 0 || size == 0 {
				size = r.Intn(12)
			}
			if kind < 2 && r.Intn(3) > 0 {
				options = append(options, 1)
				continue
			}
			body := make([]byte, max(size-2, 0))
			r.Read(body)
			options = append(append(options, kind, byte(size)), body...)
		}
		options = options[:min(len(options), 40)]
		options = append(options, make([]byte, (4-len(options)%4)%4)...)
		want := plain()
		e := plainRead(options, &want)
		if e != api.OK {
			want = api.Tcp{}
		}
		told[e]++
		if s, got := read(options); !same(s, want) || got != e {
			t.Fatalf("Parse of options %x = %+v, %d; want %+v, %d", options, s, got, want, e)
		}
	}
	if told[api.OK] < 1000 || told[api.ErrOption] < 1000 {
		t.Errorf("the options are all of one kind: %v", told)
	}
}

func TestLengthP5_3(t *testing.T) {
	for flags := range 256 {
		for _, size := range []int{0, 1, 1460, 65515, 1 << 20} {
			want := size + flags&1 + flags>>1&1
			if n := tcpwire.Length(api.Tcp{Flags: byte(flags), Data: make([]byte, size)}); n != want {
				t.Fatalf("Length of Flags %d and %d octets = %d; want %d", flags, size, n, want)
			}
		}
	}
	s := api.Tcp{MSS: 1, SackOK: true, Sacks: blocks(4), HasTS: true, TSVal: 7, Seq: 9, Window: 11, Urgent: 13}
	if n := tcpwire.Length(s); n != 0 {
		t.Errorf("Length of a segment that has no Data = %d", n)
	}
}

func TestThereAndBackP5_4(t *testing.T) {
	r := rand.New(rand.NewSource(3))
	for range 5000 {
		s, from, to := anySegment(r), r.Uint32(), r.Uint32()>>r.Intn(32)
		b, e := tcpwire.Build(s, from, to)
		if got, back := tcpwire.Parse(b, from, to); !same(got, s) || e != api.OK || back != api.OK {
			t.Fatalf("Parse(Build(%+v)) = %+v, %d, %d", s, got, e, back)
		}
	}
}

// TestOneOctetP5_5: each octet, changed to each other one, is told.
func TestOneOctetP5_5(t *testing.T) {
	r := rand.New(rand.NewSource(4))
	for range 20 {
		s := anySegment(r)
		s.Data = s.Data[:min(len(s.Data), 30)]
		b, _ := tcpwire.Build(s, src, dst)
		for at, was := range b {
			for x := range 256 {
				b[at] = byte(x)
				got, e := tcpwire.Parse(b, src, dst)
				if byte(x) != was && (e != api.ErrSum && (at != 12 || e != api.ErrLength) || !none(got)) {
					t.Fatalf("octet %d changed from %02x to %02x: %+v, %d", at, was, x, got, e)
				}
			}
			b[at] = was
		}
	}
}

// TestPairsOfOneSumP5_5: two octets between such with the same Sum are not told.
func TestPairsOfOneSumP5_5(t *testing.T) {
	s := plain()
	s.Data = []byte{1, 2, 3, 4}
	b, _ := tcpwire.Build(s, src, dst)
	b[20], b[22] = 3, 1
	s.Data = []byte{3, 2, 1, 4}
	if got, e := tcpwire.Parse(b, src, dst); !same(got, s) || e != api.OK {
		t.Errorf("Parse(%x) = %+v, %d; want %+v", b, got, e, s)
	}
}

// TestArgumentsStayP5_6: what is handed in is not changed, nor what lies behind it in the same memory (P2).
func TestArgumentsStayP5_6(t *testing.T) {
	s := plain()
	s.HasTS, s.TSVal = true, 7
	whole := append(laid(s, plainOptions(s), src, dst), 1, 2, 3, 4)
	before := bytes.Clone(whole)
	all := blocks(6)
	for size := range len(whole) + 1 {
		s := api.Tcp{Data: whole[:size], Sacks: all[:size%6]}
		tcpwire.Parse(whole[:size], src, dst)
		tcpwire.Check(s)
		tcpwire.Build(s, src, dst)
		tcpwire.Length(s)
		if !bytes.Equal(whole, before) || !slices.Equal(all, blocks(6)) {
			t.Fatalf("an argument of %d octets was changed: %x, %v", size, whole, all)
		}
	}
}

// TestAnswersAreNewP5_6: changing an argument or an answer changes no other answer (P2).
func TestAnswersAreNewP5_6(t *testing.T) {
	want := plain()
	want.Sacks = blocks(3)
	in := laid(want, plainOptions(want), src, dst)
	first, _ := tcpwire.Parse(in, src, dst)
	second, _ := tcpwire.Parse(in, src, dst)
	clear(in)
	if !same(first, want) {
		t.Errorf("Parse keeps its argument: %+v", first)
	}
	clear(first.Data[:cap(first.Data)])
	clear(first.Sacks[:cap(first.Sacks)])
	if !same(second, want) {
		t.Errorf("two answers of Parse share memory: %+v", second)
	}
	built, _ := tcpwire.Build(want, src, dst)
	other, _ := tcpwire.Build(want, src, dst)
	octets := bytes.Clone(built)
	clear(built[:cap(built)])
	third, _ := tcpwire.Build(want, src, dst)
	expected := plain()
	expected.Sacks = blocks(3)
	if !bytes.Equal(other, octets) || !bytes.Equal(third, octets) || !same(want, expected) {
		t.Errorf("Build: answers share memory: %x, %x, %+v", other, third, want)
	}
}

// TestNothingIsKeptP3: a call answers the same whatever was asked, and refused, between.
func TestNothingIsKeptP3(t *testing.T) {
	all := func() []any {
		r := rand.New(rand.NewSource(5))
		var out []any
		for range 100 {
			s := anySegment(r)
			b, e := tcpwire.Build(s, src, dst)
			got, back := tcpwire.Parse(b, src, dst)
			out = append(out, b, e, got, back, tcpwire.Check(s), tcpwire.Length(s))
		}
		return out
	}
	first := all()
	tcpwire.Build(api.Tcp{MSS: -1}, 0, 0)
	tcpwire.Parse(make([]byte, 20), 0, 0)
	read([]byte{2, 4, 0, 0, 2, 4, 1, 1, 2})
	if !reflect.DeepEqual(all(), first) {
		t.Error("the same calls answered otherwise")
	}
}

// FuzzOctets: no octets make a call panic, and what is read is what a plain reader reads (P1, P5.2).
func FuzzOctets(f *testing.F) {
	f.Add([]byte(nil), uint32(0), uint32(0))
	s := plain()
	s.HasTS, s.SackOK, s.Sacks = true, true, blocks(2)
	f.Add(laid(s, plainOptions(s), src, dst), uint32(src), uint32(dst))
	f.Add(laid(plain(), []byte{2, 4, 0, 0, 2, 4, 1, 1, 3, 3, 7, 0}, src, dst), uint32(src), uint32(dst))
	f.Fuzz(func(t *testing.T, b []byte, from, to uint32) {
		if s, e := tcpwire.Parse(b, from, to); e != api.OK && !none(s) {
			t.Errorf("Parse(%x) = %+v beside %d", b, s, e)
		}
		if len(b) < 20 || len(b) > 65535 || b[12]>>4 < 5 || int(b[12]>>4)*4 > len(b) {
			return
		}
		b = seal(bytes.Clone(b), from, to) // few octets have a right checksum of themselves
		head := int(b[12]>>4) * 4
		want := api.Tcp{
			SrcPort: binary.BigEndian.Uint16(b), DstPort: binary.BigEndian.Uint16(b[2:]),
			Seq: binary.BigEndian.Uint32(b[4:]), Ack: binary.BigEndian.Uint32(b[8:]),
			Flags: b[13], Window: binary.BigEndian.Uint16(b[14:]), Urgent: binary.BigEndian.Uint16(b[18:]), Data: b[head:],
		}
		no := plainRead(b[20:head], &want)
		if no != api.OK {
			want = api.Tcp{}
		}
		s, e := tcpwire.Parse(b, from, to)
		if e != no || !same(s, want) {
			t.Errorf("Parse(%x) = %+v, %d; want %+v, %d", b, s, e, want, no)
		}
		built, e := tcpwire.Build(s, from, to)
		if got, back := tcpwire.Parse(built, from, to); e == api.OK && (!same(got, s) || back != api.OK) {
			t.Errorf("Parse(Build(%+v)) = %+v, %d", s, got, back)
		}
	})
}
