package bigint

import (
	"bytes"
	"cmp"
	"math/bits"
	"slices"
)

const (
	wordBits   = 64
	wordBytes  = wordBits / 8
	blockWords = 4
	spaceWords = 16
)

// natural is a number from 0 on: its digits to the base 2^64, the least significant one first. Its last digit is not zero.
type natural []uint64

// block is a run of digits that are added, or subtracted, in one loop.
type block [blockWords]uint64

// space is memory for the digits of a number, if it is not very long.
type space [spaceWords]uint64

// plus returns the digits of b + other + carry, and what is carried beyond them.
func (b block) plus(other block, carry uint64) (block, uint64) {
	total := b
	for i, digit := range other {
		total[i], carry = bits.Add64(total[i], digit, carry)
	}
	return total, carry
}

// minus returns the digits of b - other - borrow, and what is borrowed beyond them.
func (b block) minus(other block, borrow uint64) (block, uint64) {
	rest := b
	for i, digit := range other {
		rest[i], borrow = bits.Sub64(rest[i], digit, borrow)
	}
	return rest, borrow
}

// blockwise computes with the blocks of x and y, the least significant ones first, and passes on what is carried; y is not longer than x.
func blockwise(x, y natural, step func(b, other block, carry uint64) (block, uint64)) natural {
	result := make(natural, 0, len(x)+blockWords)
	carry := uint64(0)
	for len(x) > 0 {
		var left, right block
		x, y = x[copy(left[:], x):], y[copy(right[:], y):]
		left, carry = step(left, right, carry)
		result = append(result, left[:]...)
	}
	return trim(append(result, carry))
}

// sum returns x + y.
func sum(x, y natural) natural {
	if len(x) < len(y) {
		x, y = y, x
	}
	return blockwise(x, y, block.plus)
}

// difference returns x - y; y is not greater than x.
func difference(x, y natural) natural {
	return blockwise(x, y, block.minus)
}

// product returns x * y.
func product(x, y natural) natural {
	result := make(natural, len(x)+len(y))
	for i, digit := range y {
		result[i+len(x)] = addProduct(result[i:i+len(x)], x, digit)
	}
	return trim(result)
}

// addProduct adds x * digit to the digits of target, which are as many as those of x, and returns what is carried beyond them.
func addProduct(target, x natural, digit uint64) uint64 {
	carry := uint64(0)
	for i, d := range x {
		high, low := bits.Mul64(d, digit)
		low, more := bits.Add64(low, carry, 0)
		high += more
		target[i], more = bits.Add64(low, target[i], 0)
		carry = high + more
	}
	return carry
}

// subProduct subtracts x * digit from the digits of target, which are as many as those of x, and returns what is borrowed beyond them.
func subProduct(target, x natural, digit uint64) uint64 {
	borrow := uint64(0)
	for i, d := range x {
		high, low := bits.Mul64(d, digit)
		low, more := bits.Add64(low, borrow, 0)
		high += more
		target[i], more = bits.Sub64(target[i], low, 0)
		borrow = high + more
	}
	return borrow
}

// compare returns -1, 0 or 1 if x is less than, equal to or greater than y.
func compare(x, y natural) int {
	if len(x) != len(y) {
		return cmp.Compare(len(x), len(y))
	}
	for i, digit := range slices.Backward(x) {
		if digit != y[i] {
			return cmp.Compare(digit, y[i])
		}
	}
	return 0
}

// shiftLeft returns the digits of x * 2^n, and a further one, which may be zero.
func shiftLeft(x natural, n int) natural {
	words, inner := n/wordBits, n%wordBits
	result := make(natural, words+len(x)+1)
	for i, digit := range x {
		result[words+i] |= digit << inner
		result[words+i+1] = digit >> (wordBits - inner)
	}
	return result
}

// shiftRight returns x / 2^n, rounded down.
func shiftRight(x natural, n int) natural {
	words, inner := n/wordBits, n%wordBits
	if words >= len(x) {
		return nil
	}
	result := slices.Clone(x[words:])
	for i, digit := range result {
		result[i] = digit >> inner
		if i > 0 {
			result[i-1] |= digit << (wordBits - inner)
		}
	}
	return trim(result)
}

// trim removes zeros at the end.
func trim(x natural) natural {
	for len(x) > 0 && x[len(x)-1] == 0 {
		x = x[:len(x)-1]
	}
	return x
}

// load returns the number with base-256 digits, in the memory that is passed if that suffices, which spares the heap.
func load(memory *space, mag string) natural {
	x := slices.Grow(memory[:0], (len(mag)+wordBytes-1)/wordBytes)
	for mag != "" {
		cut := max(len(mag)-wordBytes, 0)
		x = append(x, word(mag[cut:]))
		mag = mag[:cut]
	}
	return trim(x)
}

// word returns the number with at most eight base-256 digits.
func word(mag string) uint64 {
	if len(mag) == wordBytes {
		return wholeWord(mag)
	}
	w := uint64(0)
	for i := range len(mag) {
		w = w<<8 | uint64(mag[i])
	}
	return w
}

// wholeWord returns the number with the first eight base-256 digits; they are written out because this is the most frequent loop of all.
func wholeWord(mag string) uint64 {
	return uint64(mag[0])<<56 | uint64(mag[1])<<48 | uint64(mag[2])<<40 | uint64(mag[3])<<32 |
		uint64(mag[4])<<24 | uint64(mag[5])<<16 | uint64(mag[6])<<8 | uint64(mag[7])
}

// store returns the base-256 digits of x, without leading zeros.
func store(x natural) string {
	var memory [spaceWords * wordBytes]byte
	digits := slices.Grow(memory[:0], wordBytes*len(x))
	for _, w := range slices.Backward(x) {
		digits = append(digits, byte(w>>56), byte(w>>48), byte(w>>40), byte(w>>32), byte(w>>24), byte(w>>16), byte(w>>8), byte(w))
	}
	return string(bytes.TrimLeft(digits, "\x00"))
}
