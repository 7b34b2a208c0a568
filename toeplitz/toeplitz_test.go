package toeplitz_test

import (
	"bytes"
	"encoding/hex"
	"fmt"
	"math"
	"math/big"
	"math/bits"
	"math/rand"
	"slices"
	"strings"
	"testing"

	"stopcock/api"
	"stopcock/toeplitz"
)

const exampleKey = "6d5a56da255b0ec24167253d43a38fb0d0ca2bcbae7b30b477cb2da38030f20c6a42b73bbeac01fa"

func octetsOf(t testing.TB, s string) []byte {
	t.Helper()
	b, err := hex.DecodeString(strings.ReplaceAll(s, " ", ""))
	if err != nil {
		t.Fatal(err)
	}
	return b
}

// address reads the four numbers of an address.
func address(t *testing.T, s string) uint32 {
	t.Helper()
	var a, b, c, d uint32
	if n, err := fmt.Sscanf(s, "%d.%d.%d.%d", &a, &b, &c, &d); n != 4 || err != nil {
		t.Fatal(s, err)
	}
	return a<<24 | b<<16 | c<<8 | d
}

// plainHash takes key and input as one number each, and shifts the key.
func plainHash(key, input []byte) uint32 {
	k, in := new(big.Int).SetBytes(key), new(big.Int).SetBytes(input)
	sum := new(big.Int)
	for i := range 8 * len(input) {
		if in.Bit(8*len(input)-1-i) == 1 {
			at := new(big.Int).Rsh(k, uint(8*len(key)-32-i))
			sum.Xor(sum, at.And(at, big.NewInt(math.MaxUint32)))
		}
	}
	return uint32(sum.Uint64())
}

func plainTuple(src, dst uint32, srcPort, dstPort uint16) []byte {
	return []byte{byte(src >> 24), byte(src >> 16), byte(src >> 8), byte(src), byte(dst >> 24), byte(dst >> 16), byte(dst >> 8), byte(dst),
		byte(srcPort >> 8), byte(srcPort), byte(dstPort >> 8), byte(dstPort)}
}

func anyOctets(r *rand.Rand, n int) []byte {
	b := make([]byte, n)
	r.Read(b)
	return b
}

// anyTable gives a table of the numbers below most.
func anyTable(r *rand.Rand, most int) []int {
	table := make([]int, 128)
	for i := range table {
		table[i] = r.Intn(most)
	}
	return table
}

// The vectors of the cards that do it: addresses alone, and with ports.
func TestHashVectorsP7_1(t *testing.T) {
	key := octetsOf(t, exampleKey)
	for _, x := range []struct {
		src     string
		srcPort uint16
		dst     string
		dstPort uint16
		alone   uint32
		whole   uint32
	}{
		{"66.9.149.187", 2794, "161.142.100.80", 1766, 0x323e8fc2, 0x51ccc178},
		{"199.92.111.2", 14230, "65.69.140.83", 4739, 0xd718262a, 0xc626b0ea},
		{"24.19.198.95", 12898, "12.22.207.184", 38024, 0xd2d0a5de, 0x5c2b394a},
		{"38.27.205.30", 48228, "209.142.163.6", 2217, 0x82989176, 0xafc7327f},
		{"153.39.163.191", 44251, "202.188.127.2", 1303, 0x5d1809c5, 0x10e828a2},
	} {
		input := toeplitz.Tuple(address(t, x.src), address(t, x.dst), x.srcPort, x.dstPort)
		if got, e := toeplitz.Hash(key, input); got != x.whole || e != api.OK {
			t.Errorf("%s: %x, %d; want %x", x.src, got, e, x.whole)
		}
		if got, e := toeplitz.Hash(key, input[:8]); got != x.alone || e != api.OK {
			t.Errorf("%s alone: %x, %d; want %x", x.src, got, e, x.alone)
		}
	}
	long := octetsOf(t, "3ffe2501 02001fff 00000000 00000007 3ffe2501 02000003 00000000 00000001 0aea 06e6")
	if got, e := toeplitz.Hash(key, long); got != 0x40207d3d || e != api.OK {
		t.Errorf("36 octets: %x, %d", got, e)
	}
}

// Each bit alone: the 32 bits of the key from there on.
func TestHashBitsP7_1(t *testing.T) {
	key := anyOctets(rand.New(rand.NewSource(1)), 40)
	text := ""
	for _, x := range key {
		text += fmt.Sprintf("%08b", x)
	}
	for i := range 36 * 8 {
		input := make([]byte, 36)
		input[i/8] = 128 >> (i % 8)
		var want uint32
		fmt.Sscanf(text[i:i+32], "%b", &want)
		if got, e := toeplitz.Hash(key, input); got != want || e != api.OK {
			t.Errorf("bit %d: %x, %d; want %x", i, got, e, want)
		}
	}
}

func TestHashP7_1(t *testing.T) {
	r := rand.New(rand.NewSource(2))
	for n := 0; n <= 36; n++ {
		for range 20 {
			key, input := anyOctets(r, 40), anyOctets(r, n)
			if got, e := toeplitz.Hash(key, input); got != plainHash(key, input) || e != api.OK {
				t.Fatalf("Hash(%x, %x) = %x, %d; want %x", key, input, got, e, plainHash(key, input))
			}
		}
		all := bytes.Repeat([]byte{255}, n)
		key := anyOctets(r, 40)
		if got, e := toeplitz.Hash(key, all); got != plainHash(key, all) || e != api.OK {
			t.Errorf("Hash of %d times 255 = %x, %d", n, got, e)
		}
	}
	if got, e := toeplitz.Hash(make([]byte, 40), nil); got != 0 || e != api.OK {
		t.Error("Hash of none:", got, e)
	}
}

func TestHashCountP7_1(t *testing.T) {
	for n := range 80 {
		want := api.ErrCount
		if n == 40 {
			want = api.OK
		}
		key := bytes.Repeat([]byte{255}, n)
		for _, input := range [][]byte{nil, {}, {1}, bytes.Repeat([]byte{1}, 36)} {
			got, e := toeplitz.Hash(key, input)
			if e != want || e != api.OK && got != 0 {
				t.Errorf("a key of %d octets: %x, %d", n, got, e)
			}
		}
		if n > 36 {
			if got, e := toeplitz.Hash(bytes.Repeat([]byte{255}, 40), make([]byte, n)); got != 0 || e != api.ErrCount {
				t.Errorf("an input of %d octets: %x, %d", n, got, e)
			}
		}
	}
	if got, e := toeplitz.Hash(nil, nil); got != 0 || e != api.ErrCount {
		t.Error("no key:", got, e)
	}
}

func TestTupleP7_1(t *testing.T) {
	if got := toeplitz.Tuple(0x01020304, 0x05060708, 0x090a, 0x0b0c); !bytes.Equal(got, []byte{1, 2, 3, 4, 5, 6, 7, 8, 9, 10, 11, 12}) {
		t.Errorf("Tuple = %x", got)
	}
	for _, x := range []uint32{0, 1, 255, 256, 65536, 1 << 31, math.MaxUint32} {
		for _, y := range []uint16{0, 1, 255, 256, 65535} {
			if got, want := toeplitz.Tuple(x, ^x, y, ^y), plainTuple(x, ^x, y, ^y); !bytes.Equal(got, want) {
				t.Errorf("Tuple = %x; want %x", got, want)
			}
		}
	}
}

func TestCheckP7_2(t *testing.T) {
	r := rand.New(rand.NewSource(3))
	key, table := anyOctets(r, 40), anyTable(r, 16)
	if e := toeplitz.Check(key, table); e != api.OK {
		t.Error("Check:", e)
	}
	if e := toeplitz.Check(make([]byte, 40), make([]int, 128)); e != api.OK {
		t.Error("Check of zeros:", e)
	}
	for _, n := range []int{0, 1, 39, 41, 80} {
		if e := toeplitz.Check(make([]byte, n), table); e != api.ErrCount {
			t.Errorf("a key of %d: %d", n, e)
		}
		if e := toeplitz.Check(make([]byte, n), []int{99}); e != api.ErrCount {
			t.Errorf("a key of %d ahead of the table: %d", n, e)
		}
	}
	for _, n := range []int{0, 1, 127, 129, 256} {
		wrong := make([]int, n)
		if e := toeplitz.Check(key, wrong); e != api.ErrCount {
			t.Errorf("a table of %d: %d", n, e)
		}
		if n > 0 {
			wrong[0] = 16
		}
		if e := toeplitz.Check(key, wrong); e != api.ErrCount {
			t.Errorf("ErrCount goes ahead of ErrRange: a table of %d: %d", n, e)
		}
		if got, e := toeplitz.Shard(wrong, 5); got != 0 || e != api.ErrCount {
			t.Errorf("Shard, a table of %d: %d, %d", n, got, e)
		}
	}
	if e := toeplitz.Check(nil, nil); e != api.ErrCount {
		t.Error("Check of none:", e)
	}
}

func TestTableRangeP7_2(t *testing.T) {
	key := make([]byte, 40)
	for i := range 128 {
		for _, n := range []int{-1, 16, 17, 128, math.MinInt, math.MaxInt, 1 << 32} {
			table := slices.Repeat([]int{15}, 128)
			table[i] = n
			if e := toeplitz.Check(key, table); e != api.ErrRange {
				t.Errorf("%d in the table: %d", n, e)
			}
			if got, e := toeplitz.Shard(table, uint32(i+1)); got != 0 || e != api.ErrRange {
				t.Errorf("Shard, %d in the table: %d, %d", n, got, e)
			}
			if got, e := toeplitz.Port(key, table, 1, 2, 3, 15, 40000); got != 0 || e != api.ErrRange {
				t.Errorf("Port, %d in the table: %d, %d", n, got, e)
			}
		}
	}
}

func TestShardP7_2(t *testing.T) {
	table := make([]int, 128)
	for i := range table {
		table[i] = (i*7 + i/16) % 16
	}
	for _, high := range []uint32{0, 128, 1 << 16, 1 << 31, math.MaxUint32 - 127} {
		for i := range uint32(128) {
			if got, e := toeplitz.Shard(table, high+i); got != table[i] || e != api.OK {
				t.Errorf("Shard(%d) = %d, %d; want %d", high+i, got, e, table[i])
			}
		}
	}
}

// plainPort looks at the ports one by one.
func plainPort(key []byte, table []int, local, remote uint32, remotePort uint16, shard int, from uint16) (uint16, api.Errno) {
	var ports []uint16
	for p := int(from); p <= 65535; p++ {
		ports = append(ports, uint16(p))
	}
	for p := 32768; p < int(from); p++ {
		ports = append(ports, uint16(p))
	}
	for _, p := range ports {
		if table[plainHash(key, plainTuple(remote, local, remotePort, p))%128] == shard {
			return p, api.OK
		}
	}
	return 0, api.ErrNone
}

func TestPortP7_3(t *testing.T) {
	r := rand.New(rand.NewSource(4))
	for i := range 200 {
		key, table := anyOctets(r, 40), anyTable(r, 1+r.Intn(16))
		local, remote, remotePort := r.Uint32(), r.Uint32(), uint16(r.Intn(65536))
		shard, from := table[r.Intn(128)], uint16(32768+r.Intn(32768))
		if i%4 == 0 {
			from = uint16(65535 - r.Intn(4))
		}
		want, we := plainPort(key, table, local, remote, remotePort, shard, from)
		got, e := toeplitz.Port(key, table, local, remote, remotePort, shard, from)
		if got != want || e != we {
			t.Fatalf("Port from %d for %d = %d, %d; want %d, %d", from, shard, got, e, want, we)
		}
	}
}

// A key with the bit 112 alone: the lowest 7 bits of the hash are the bits 14 to
// 8 of the port, turned round, so that a place of the table has 256 ports, one
// behind the other.
func TestPortRoundP7_3(t *testing.T) {
	key := make([]byte, 40)
	key[14] = 128
	for block := range 128 {
		table := make([]int, 128)
		table[bits.Reverse8(byte(block))>>1] = 9
		first := 32768 + 256*block
		for _, x := range []struct{ from, want int }{
			{32768, first}, {first - 1, first}, {first, first}, {first + 1, first + 1}, {first + 255, first + 255}, {first + 256, first}, {65535, first},
		} {
			if x.from < 32768 || x.from > 65535 {
				continue
			}
			if x.from == 65535 && block == 127 {
				x.want = 65535
			}
			if got, e := toeplitz.Port(key, table, 0, 0, 0, 9, uint16(x.from)); int(got) != x.want || e != api.OK {
				t.Errorf("Port from %d = %d, %d; want %d", x.from, got, e, x.want)
			}
		}
	}
}

// Without a bit in the key all hashes are 0.
func TestPortNoneP7_3(t *testing.T) {
	key, table := make([]byte, 40), slices.Repeat([]int{3}, 128)
	table[0] = 4
	for _, from := range []uint16{32768, 50000, 65535} {
		if got, e := toeplitz.Port(key, table, 1, 2, 3, 4, from); got != from || e != api.OK {
			t.Errorf("Port from %d = %d, %d", from, got, e)
		}
		for _, shard := range []int{0, 3, 15} {
			if got, e := toeplitz.Port(key, table, 1, 2, 3, shard, from); got != 0 || e != api.ErrNone {
				t.Errorf("Port from %d for %d = %d, %d; want none", from, shard, got, e)
			}
		}
	}
}

func TestPortWrongP7_3(t *testing.T) {
	key, table := make([]byte, 40), make([]int, 128)
	wrong := func(what string, key []byte, table []int, shard int, from uint16, want api.Errno) {
		t.Helper()
		if got, e := toeplitz.Port(key, table, 1, 2, 3, shard, from); got != 0 || e != want {
			t.Errorf("%s: %d, %d; want %d", what, got, e, want)
		}
	}
	wrong("no key", nil, table, 0, 40000, api.ErrCount)
	wrong("no table", key, nil, 0, 40000, api.ErrCount)
	wrong("a long key, no shard", make([]byte, 41), table, -1, 0, api.ErrCount)
	wrong("a short table, no shard", key, table[:127], 16, 0, api.ErrCount)
	for _, shard := range []int{-1, 16, math.MinInt, math.MaxInt, 1 << 32} {
		wrong("the shard", key, table, shard, 40000, api.ErrRange)
	}
	for _, from := range []uint16{0, 1, 1024, 32767} {
		wrong("from", key, table, 0, from, api.ErrRange)
		wrong("from, and none has the shard", key, table, 5, from, api.ErrRange)
	}
	wrong("none", key, table, 15, 32768, api.ErrNone)
	if got, e := toeplitz.Port(key, table, 1, 2, 3, 0, 32768); got != 32768 || e != api.OK {
		t.Error("the lowest port:", got, e)
	}
}

func TestExclusiveOrP7_4(t *testing.T) {
	r := rand.New(rand.NewSource(6))
	for n := 0; n <= 36; n++ {
		key, a, b := anyOctets(r, 40), anyOctets(r, n), anyOctets(r, n)
		both := make([]byte, n)
		for i := range both {
			both[i] = a[i] ^ b[i]
		}
		x, _ := toeplitz.Hash(key, a)
		y, _ := toeplitz.Hash(key, b)
		if got, e := toeplitz.Hash(key, both); got != x^y || e != api.OK {
			t.Errorf("%d octets: %x; want %x", n, got, x^y)
		}
	}
}

// The answers go from the remote end to the local one: their hash, through the table, gives the shard that chose.
func TestAnswersP7_5(t *testing.T) {
	r := rand.New(rand.NewSource(7))
	for range 500 {
		key, table := anyOctets(r, 40), anyTable(r, 16)
		local, remote, remotePort := r.Uint32(), r.Uint32(), uint16(r.Intn(65536))
		shard := table[r.Intn(128)]
		port, e := toeplitz.Port(key, table, local, remote, remotePort, shard, uint16(32768+r.Intn(32768)))
		if e == api.ErrNone {
			continue
		}
		if e != api.OK || port < 32768 {
			t.Fatal("Port:", port, e)
		}
		hash, _ := toeplitz.Hash(key, toeplitz.Tuple(remote, local, remotePort, port))
		if got, e := toeplitz.Shard(table, hash); got != shard || e != api.OK {
			t.Errorf("the answers come to %d, %d; want %d", got, e, shard)
		}
	}
}

func TestMemoryP7_6(t *testing.T) {
	r := rand.New(rand.NewSource(8))
	key, table, input := anyOctets(r, 40), anyTable(r, 16), anyOctets(r, 36)
	key0, table0, input0 := bytes.Clone(key), slices.Clone(table), bytes.Clone(input)
	toeplitz.Hash(key, input)
	toeplitz.Shard(table, 77)
	toeplitz.Check(key, table)
	toeplitz.Port(key, table, 1, 2, 3, table[0], 40000)
	if !bytes.Equal(key, key0) || !slices.Equal(table, table0) || !bytes.Equal(input, input0) {
		t.Error("an argument was changed")
	}
	one := toeplitz.Tuple(1, 2, 3, 4)
	for i := range one[:cap(one)] {
		one[:cap(one)][i] = 255
	}
	if two := toeplitz.Tuple(1, 2, 3, 4); !bytes.Equal(two, plainTuple(1, 2, 3, 4)) {
		t.Errorf("Tuple = %x", two)
	}
	first, _ := toeplitz.Hash(key, input)
	r.Read(key[:20])
	toeplitz.Hash(key, input)
	copy(key, key0)
	if again, _ := toeplitz.Hash(key, input); again != first {
		t.Error("a hash hangs on an earlier key")
	}
}

func FuzzHash(f *testing.F) {
	f.Add([]byte(exampleKey[:40]), []byte("0123456789ab"), uint16(40000))
	f.Add([]byte{}, []byte{}, uint16(0))
	f.Fuzz(func(t *testing.T, key, input []byte, from uint16) {
		got, e := toeplitz.Hash(key, input)
		if len(key) != 40 || len(input) > 36 {
			if got != 0 || e != api.ErrCount {
				t.Fatal(got, e)
			}
			return
		}
		if got != plainHash(key, input) || e != api.OK {
			t.Fatal(got, e)
		}
		table := make([]int, 128)
		for i := range table {
			table[i] = int(key[i%40]) % 17
		}
		for _, n := range table {
			if n == 16 {
				return
			}
		}
		if from < 32768 {
			return
		}
		want, we := plainPort(key, table, 1, 2, 3, 4, from)
		if got, e := toeplitz.Port(key, table, 1, 2, 3, 4, from); got != want || e != we {
			t.Fatal(got, e, want, we)
		}
	})
}
