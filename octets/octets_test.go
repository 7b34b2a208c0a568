package octets_test

import (
	"bytes"
	"encoding/binary"
	"encoding/hex"
	"math"
	"math/rand"
	"strconv"
	"strings"
	"testing"

	"stopcock/api"
	"stopcock/octets"
)

// numbers gives the edges of every count of octets, and many more numbers of all sizes.
func numbers() []uint64 {
	out := []uint64{0, 1, 9, 10, 99, 100, math.MaxInt64, math.MaxInt64 + 1, math.MaxUint64}
	for bits := 1; bits < 64; bits++ {
		out = append(out, 1<<bits-1, 1<<bits, 1<<bits+1)
	}
	r := rand.New(rand.NewSource(1))
	for range 2000 {
		out = append(out, r.Uint64()>>r.Intn(64))
	}
	return out
}

// ints gives the edges of int, of every count of digits, and many more of both signs.
func ints() []int {
	out := []int{0, math.MinInt, math.MinInt + 1, math.MaxInt, math.MaxInt - 1}
	for ten := 1; ten <= math.MaxInt/10; ten *= 10 {
		out = append(out, ten-1, ten, ten+1, 1-ten, -ten, -ten-1)
	}
	for _, n := range numbers() {
		out = append(out, int(n), -int(n))
	}
	return out
}

func TestPutP1_1(t *testing.T) {
	for _, c := range []struct {
		n    uint64
		size int
		want []byte
	}{
		{258, 2, []byte{1, 2}},
		{0, 1, []byte{0}},
		{255, 1, []byte{255}},
		{256, 2, []byte{1, 0}},
		{1, 4, []byte{0, 0, 0, 1}},
		{1<<24 - 1, 3, []byte{255, 255, 255}},
		{0x0102030405060708, 8, []byte{1, 2, 3, 4, 5, 6, 7, 8}},
		{math.MaxUint64, 8, []byte{255, 255, 255, 255, 255, 255, 255, 255}},
		{0, 8, make([]byte, 8)},
	} {
		if b, e := octets.Put(c.n, c.size); !bytes.Equal(b, c.want) || e != api.OK {
			t.Errorf("Put(%d, %d) = %v, %d; want %v", c.n, c.size, b, e, c.want)
		}
	}
}

func TestPutEverySizeP1_1(t *testing.T) {
	for _, n := range numbers() {
		for size := 1; size <= 8; size++ {
			b, e := octets.Put(n, size)
			if size < 8 && n >= 1<<(8*size) {
				if len(b) != 0 || e != api.ErrRange {
					t.Fatalf("Put(%d, %d) = %v, %d; want ErrRange alone", n, size, b, e)
				}
				continue
			}
			want := binary.BigEndian.AppendUint64(nil, n)[8-size:]
			if !bytes.Equal(b, want) || e != api.OK {
				t.Fatalf("Put(%d, %d) = %v, %d; want %v", n, size, b, e, want)
			}
		}
	}
}

func TestPutOfNoSizeP1_1(t *testing.T) {
	for _, size := range []int{0, -1, 9, 10, 64, math.MinInt, math.MaxInt, math.MinInt32, math.MaxInt32} {
		for _, n := range []uint64{0, 1, math.MaxUint64} {
			if b, e := octets.Put(n, size); len(b) != 0 || e != api.ErrRange {
				t.Errorf("Put(%d, %d) = %v, %d; want ErrRange alone", n, size, b, e)
			}
		}
	}
}

func TestGetP1_1(t *testing.T) {
	for _, c := range []struct {
		b    []byte
		want uint64
	}{
		{[]byte{0}, 0},
		{[]byte{255}, 255},
		{[]byte{1, 2}, 258},
		{[]byte{0, 0, 7}, 7},
		{[]byte{1, 2, 3, 4, 5, 6, 7, 8}, 0x0102030405060708},
		{bytes.Repeat([]byte{255}, 8), math.MaxUint64},
		{make([]byte, 8), 0},
	} {
		if n, e := octets.Get(c.b); n != c.want || e != api.OK {
			t.Errorf("Get(%v) = %d, %d; want %d", c.b, n, e, c.want)
		}
	}
}

func TestGetOfNoCountP1_1(t *testing.T) {
	for _, b := range [][]byte{nil, {}, bytes.Repeat([]byte{1}, 9), make([]byte, 9), bytes.Repeat([]byte{1}, 70000)} {
		if n, e := octets.Get(b); n != 0 || e != api.ErrCount {
			t.Errorf("Get of %d octets = %d, %d; want ErrCount alone", len(b), n, e)
		}
	}
}

func TestDecimalP1_2(t *testing.T) {
	for _, n := range ints() {
		if s := octets.Decimal(n); s != strconv.Itoa(n) {
			t.Fatalf("Decimal(%d) = %q", n, s)
		}
	}
}

func TestParseIntP1_2(t *testing.T) {
	for _, n := range ints() {
		s := strconv.Itoa(n)
		if got, e := octets.ParseInt(s); got != n || e != api.OK {
			t.Fatalf("ParseInt(%q) = %d, %d", s, got, e)
		}
	}
}

func TestParseIntOfNoIntP1_2(t *testing.T) {
	for _, s := range []string{
		"", "-", "--", "--1", "-0", "+0", "+1", "00", "007", "-007", "01", "-01", "-00",
		" 1", "1 ", "1 2", "1-", "1-2", "0-", "a", "0x1", "1e3", "1_0", "1.0", "12a", "a12",
		"9223372036854775808", "-9223372036854775809", "10000000000000000000",
		"18446744073709551615", "18446744073709551616", "18446744073709551617",
		"-18446744073709551616", "-18446744073709551617", "36893488147419103233",
		"100000000000000000001", "340282366920938463463374607431768211457",
		"/", ":", "\x00", "1\x00", "\xff", "1\n", "\u0661", "\uff11", "\u22121",
		strings.Repeat("0", 70000), strings.Repeat("9", 70000), "-" + strings.Repeat("1", 70000),
	} {
		if n, e := octets.ParseInt(s); n != 0 || e != api.ErrDigit {
			t.Errorf("ParseInt of %.40q (%d bytes) = %d, %d; want ErrDigit alone", s, len(s), n, e)
		}
	}
}

// TestParseIntShortTextsP1_2 holds every text of up to three of these bytes against the library's reading.
func TestParseIntShortTextsP1_2(t *testing.T) {
	texts := []string{""}
	for from := 0; len(texts) < 1+15+15*15+15*15*15; from++ {
		for _, c := range []byte("0123456789-+/: ") {
			texts = append(texts, texts[from]+string(rune(c)))
		}
	}
	for _, s := range texts {
		want, err := strconv.Atoi(s)
		ok := err == nil && strconv.Itoa(want) == s
		n, e := octets.ParseInt(s)
		if ok && (n != want || e != api.OK) || !ok && (n != 0 || e != api.ErrDigit) {
			t.Errorf("ParseInt(%q) = %d, %d", s, n, e)
		}
	}
}

func TestHexP1_2(t *testing.T) {
	if s := octets.Hex(nil); s != "" {
		t.Errorf("Hex(nil) = %q", s)
	}
	if s := octets.Hex([]byte{}); s != "" {
		t.Errorf("Hex of none = %q", s)
	}
	if s := octets.Hex([]byte{0, 9, 0x0a, 0xf0, 0xff}); s != "00090af0ff" {
		t.Errorf("Hex = %q", s)
	}
	var all []byte
	for i := range 256 {
		all = append(all, byte(i))
	}
	if s := octets.Hex(all); s != hex.EncodeToString(all) {
		t.Errorf("Hex of all octets = %q", s)
	}
}

func TestUnhexP1_2(t *testing.T) {
	for _, c := range []struct {
		s    string
		want []byte
	}{
		{"", nil},
		{"00", []byte{0}},
		{"ff", []byte{255}},
		{"FF", []byte{255}},
		{"aFAf", []byte{0xaf, 0xaf}},
		{"0123456789abcdefABCDEF", []byte{0x01, 0x23, 0x45, 0x67, 0x89, 0xab, 0xcd, 0xef, 0xab, 0xcd, 0xef}},
	} {
		if b, e, at := octets.Unhex(c.s); !bytes.Equal(b, c.want) || e != api.OK || at != len(c.s) {
			t.Errorf("Unhex(%q) = %v, %d, %d; want %v, OK, %d", c.s, b, e, at, c.want, len(c.s))
		}
	}
}

func TestUnhexOfNoDigitP1_2(t *testing.T) {
	for _, c := range []struct {
		s  string
		at int
	}{
		{"0g", 1},
		{"g0", 0},
		{"g", 0},
		{"gg", 0},
		{"00g", 2},
		{"000g0g", 3},
		{"0x12", 1},
		{"12 34", 2},
		{"-1", 0},
		{"1\u0661", 1},
		{"ab\xff", 2},
		{strings.Repeat("0", 70000) + "z", 70000},
	} {
		if b, e, at := octets.Unhex(c.s); len(b) != 0 || e != api.ErrDigit || at != c.at {
			t.Errorf("Unhex of %.40q = %v, %d, %d; want ErrDigit, %d", c.s, b, e, at, c.at)
		}
	}
}

// TestUnhexEveryByteP1_2: which bytes are digits, at both places of an octet.
func TestUnhexEveryByteP1_2(t *testing.T) {
	for i := range 256 {
		c := string([]byte{byte(i)})
		digit := strings.Contains("0123456789abcdefABCDEF", c)
		for at, s := range []string{c + "1", "1" + c} {
			b, e, place := octets.Unhex(s)
			if digit {
				want, _ := hex.DecodeString(s)
				if !bytes.Equal(b, want) || e != api.OK || place != 2 {
					t.Errorf("Unhex(%q) = %v, %d, %d", s, b, e, place)
				}
			} else if len(b) != 0 || e != api.ErrDigit || place != at {
				t.Errorf("Unhex(%q) = %v, %d, %d", s, b, e, place)
			}
		}
	}
}

// TestUnhexOddP1_2: an odd number is told behind a byte that is no digit (P4).
func TestUnhexOddP1_2(t *testing.T) {
	for _, s := range []string{"0", "F", "012", "abcde", strings.Repeat("a", 70001)} {
		if b, e, at := octets.Unhex(s); len(b) != 0 || e != api.ErrCount || at != len(s) {
			t.Errorf("Unhex of %.40q = %v, %d, %d; want ErrCount, %d", s, b, e, at, len(s))
		}
	}
}

func TestThereAndBackP1_3(t *testing.T) {
	for _, n := range numbers() {
		for size := 1; size <= 8; size++ {
			b, e := octets.Put(n, size)
			if e != api.OK {
				continue
			}
			if got, e := octets.Get(b); got != n || e != api.OK {
				t.Fatalf("Get(Put(%d, %d)) = %d, %d", n, size, got, e)
			}
		}
	}
	for _, n := range ints() {
		if got, e := octets.ParseInt(octets.Decimal(n)); got != n || e != api.OK {
			t.Fatalf("ParseInt(Decimal(%d)) = %d, %d", n, got, e)
		}
	}
	r := rand.New(rand.NewSource(2))
	for size := range 300 {
		b := make([]byte, size)
		r.Read(b)
		s := octets.Hex(b)
		for _, x := range []string{s, strings.ToUpper(s)} {
			if got, e, at := octets.Unhex(x); !bytes.Equal(got, b) || e != api.OK || at != len(x) {
				t.Fatalf("Unhex(%q) = %v, %d, %d", x, got, e, at)
			}
		}
	}
}

// TestArgumentsStayP1_4: what is handed in is not changed, nor what lies behind it in the same memory (P2).
func TestArgumentsStayP1_4(t *testing.T) {
	for size := range 12 {
		whole := []byte{1, 2, 3, 4, 5, 6, 7, 8, 9, 10, 11, 12}
		before := bytes.Clone(whole)
		octets.Get(whole[:size])
		octets.Hex(whole[:size])
		if !bytes.Equal(whole, before) {
			t.Errorf("an argument of %d octets was changed: %v", size, whole)
		}
	}
}

// TestAnswersAreNewP1_4: changing an argument or an answer changes no other answer (P2).
func TestAnswersAreNewP1_4(t *testing.T) {
	in := []byte{0xab, 0xcd}
	s := octets.Hex(in)
	in[0] = 0
	if s != "abcd" {
		t.Errorf("Hex keeps its argument: %q", s)
	}
	for name, call := range map[string]func() []byte{
		"Put":   func() []byte { b, _ := octets.Put(258, 2); return b },
		"Unhex": func() []byte { b, _, _ := octets.Unhex("0102"); return b },
	} {
		first, second := call(), call()
		clear(first[:cap(first)])
		third := call()
		if want := []byte{1, 2}; !bytes.Equal(second, want) || !bytes.Equal(third, want) {
			t.Errorf("%s: answers share memory: %v, %v", name, second, third)
		}
	}
}

// TestSameAgainP3: a call answers the same whatever was asked between.
func TestSameAgainP3(t *testing.T) {
	all := func() string {
		var out []string
		for _, n := range numbers()[:300] {
			b, e := octets.Put(n, 8)
			m, f := octets.Get(b)
			s := octets.Hex(b)
			u, g, at := octets.Unhex(s)
			d := octets.Decimal(int(n))
			p, h := octets.ParseInt(d)
			out = append(out, string(b), strconv.FormatUint(m, 10), s, string(u), d, strconv.Itoa(p),
				strconv.Itoa(at), strconv.Itoa(int(e+f+g+h)))
		}
		return strings.Join(out, "|")
	}
	first := all()
	octets.Put(0, 99)
	octets.Unhex("zz")
	octets.ParseInt("-")
	if all() != first {
		t.Error("the same calls answered otherwise")
	}
}

// FuzzTexts: no text makes a call panic, and what is read is what the library reads (P1).
func FuzzTexts(f *testing.F) {
	for _, s := range []string{"", "-0", "9223372036854775808", "-9223372036854775808", "0g", "aB1", "\xff\x00"} {
		f.Add(s)
	}
	f.Fuzz(func(t *testing.T, s string) {
		want, err := strconv.Atoi(s)
		if n, e := octets.ParseInt(s); (e == api.OK) != (err == nil && strconv.Itoa(want) == s) || e == api.OK && n != want {
			t.Errorf("ParseInt(%q) = %d, %d", s, n, e)
		}
		if b, err := hex.DecodeString(s); err == nil {
			if got, e, at := octets.Unhex(s); !bytes.Equal(got, b) || e != api.OK || at != len(s) {
				t.Errorf("Unhex(%q) = %v, %d, %d", s, got, e, at)
			}
		} else if got, e, at := octets.Unhex(s); len(got) != 0 || e == api.OK || at > len(s) {
			t.Errorf("Unhex(%q) = %v, %d, %d", s, got, e, at)
		}
		if x := octets.Hex([]byte(s)); x != hex.EncodeToString([]byte(s)) {
			t.Errorf("Hex(%q) = %q", s, x)
		}
		if n, e := octets.Get([]byte(s)); (e == api.OK) != (len(s) >= 1 && len(s) <= 8) || e != api.OK && n != 0 {
			t.Errorf("Get(%q) = %d, %d", s, n, e)
		}
	})
}
