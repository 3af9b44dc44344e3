// Package digest computes digests of texts: see shared/doc/01-digest.md.
package digest

import (
	"strconv"
	"strings"
)

const (
	start      = 2611923443488327891
	digits     = "0123456789abcdef"
	digestSize = 16
	blockSize  = 8
	maxChain   = 1000
)

// Sum returns the digest of a text: 16 hexadecimal digits.
func Sum(text string) string {
	s := source(text)
	return hexadecimal(absorb(start^uint64(len(s)), s.count(), s.take))
}

// Is reports whether a text has the form of a digest.
func Is(text string) bool {
	if len(text) != digestSize {
		return false
	}
	for i := range digestSize {
		if strings.IndexByte(digits, text[i]) < 0 {
			return false
		}
	}
	return true
}

// List returns the digest of a list of texts.
func List(l []string) string { return Sum(join(l)) }

// Chain returns the text after n digests.
func Chain(text string, n int) string {
	for range min(n, maxChain) {
		text = Sum(text)
	}
	return text
}

// block is 8 bytes of a text.
type block [blockSize]byte

// number returns the number of a block, whose first byte is the most significant one.
func (b block) number() uint64 {
	n := uint64(0)
	for _, c := range b {
		n = n<<8 | uint64(c)
	}
	return n
}

// source is a text that is taken in blocks.
type source string

// count returns the number of blocks. It is one more than the number of full ones, as at least one byte is appended.
func (s source) count() int { return len(s)/blockSize + 1 }

// take returns the block with an index below count. The array is zero where the text has ended: these are the appended bytes.
func (s source) take(i int) block {
	var b block
	copy(b[:], s[i*blockSize:])
	return b
}

// absorb returns the state after count blocks.
func absorb(state uint64, count int, take func(int) block) uint64 {
	for i := range count {
		state = mix(state ^ take(i).number())
	}
	return state
}

// mix returns the mixed number. Each line can be undone, so that different numbers stay different.
func mix(x uint64) uint64 {
	x *= 2862933555777941757
	x ^= x >> 32
	x *= 3935559000370003845
	x ^= x >> 29
	return x
}

// hexadecimal returns the 16 digits of a number.
func hexadecimal(n uint64) string {
	var text [digestSize]byte
	for i := range digestSize {
		text[digestSize-1-i] = digits[n%16]
		n /= 16
	}
	return string(text[:])
}

// join returns the joined text of a list. The lengths tell where the elements end, so that different lists stay different.
func join(l []string) string {
	var joined strings.Builder
	for _, element := range l {
		joined.WriteString(strconv.Itoa(len(element)))
		joined.WriteByte(':')
		joined.WriteString(element)
	}
	return joined.String()
}
