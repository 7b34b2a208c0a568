// Package octets is layer 1: see shared/doc/01-octets.md.
package octets

import (
	"iter"
	"strings"

	"stopcock/api"
)

const (
	figures = "0123456789abcdef"
	most    = 8 // octets of a uint64
)

// Put writes n in size octets, the highest first.
func Put(n uint64, size int) ([]byte, api.Errno) {
	if size < 1 || size > most || width(n, 256) > size {
		return nil, api.ErrRange
	}
	b := make([]byte, size)
	for i := range size {
		b[size-1-i] = byte(n >> (8 * i))
	}
	return b, api.OK
}

// Get reads the number whose octets are b, the highest first.
func Get(b []byte) (uint64, api.Errno) {
	if len(b) < 1 || len(b) > most {
		return 0, api.ErrCount
	}
	n := uint64(0)
	for i := range len(b) {
		n = n<<8 | uint64(b[i])
	}
	return n, api.OK
}

// Decimal writes n in decimal digits, with - ahead below 0.
func Decimal(n int) string {
	var out []byte
	size := uint64(n)
	if n < 0 {
		out = append(out, '-')
		size = -size // in uint64, as the least int has no opposite
	}
	for d := range digits(size, 10, width(size, 10)) {
		out = append(out, d)
	}
	return string(out)
}

// ParseInt reads what Decimal writes, and nothing else.
func ParseInt(s string) (int, api.Errno) {
	n := 0
	rest, minus := strings.CutPrefix(s, "-")
	for i := range len(rest) {
		n = 10*n + int(rest[i]) - '0'
	}
	if minus {
		n = -n
	}
	// If s is an int's form, that int is n, however the sum went round; so
	// one comparison finds every other text: no digit, a 0 ahead, too great.
	if Decimal(n) != s {
		return 0, api.ErrDigit
	}
	return n, api.OK
}

// Hex writes two hexadecimal digits an octet, small ones.
func Hex(b []byte) string {
	out := make([]byte, 0, 2*len(b))
	for i := range len(b) {
		for d := range digits(uint64(b[i]), 16, 2) {
			out = append(out, d)
		}
	}
	return string(out)
}

// Unhex reads what Hex writes, big digits too. Beside ErrDigit it tells the
// place of the first byte that is none, otherwise the length of s.
func Unhex(s string) ([]byte, api.Errno, int) {
	for i := range len(s) {
		if _, ok := nibble(s[i]); !ok {
			return nil, api.ErrDigit, i
		}
	}
	if len(s)%2 != 0 {
		return nil, api.ErrCount, len(s)
	}
	b := make([]byte, len(s)/2)
	for i := range len(b) {
		high, _ := nibble(s[2*i])
		low, _ := nibble(s[2*i+1])
		b[i] = high<<4 | low
	}
	return b, api.OK, len(s)
}

// digits hands out the lowest count digits of n, written in that base, the
// highest of them first.
func digits(n, base uint64, count int) iter.Seq[byte] {
	return func(yield func(byte) bool) {
		unit := uint64(1)
		for range count - 1 {
			unit *= base
		}
		for ; unit > 0; unit /= base {
			if !yield(figures[n/unit%base]) {
				return
			}
		}
	}
}

// width counts the digits that n needs in that base; 0 needs one.
func width(n, base uint64) int {
	count := 1
	for n >= base {
		n /= base
		count++
	}
	return count
}

// nibble tells what the hexadecimal digit c stands for.
func nibble(c byte) (byte, bool) {
	switch {
	case '0' <= c && c <= '9':
		return c - '0', true
	case 'a' <= c && c <= 'f':
		return c - 'a' + 10, true
	case 'A' <= c && c <= 'F':
		return c - 'A' + 10, true
	}
	return 0, false
}
