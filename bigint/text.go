package bigint

import (
	"math/bits"
	"slices"
	"strconv"
	"strings"

	"narrows/api"
)

// Decimal digits are read and written in chunks that fit into a machine number.
const (
	chunkDigits = 19
	chunkBase   = 10_000_000_000_000_000_000
)

// Print returns the text of a.
func Print(a api.Int) string {
	x := load(new(space), a.Mag)
	if len(x) == 0 {
		return "0"
	}
	if a.Neg {
		return "-" + decimal(x)
	}
	return decimal(x)
}

// decimal returns the decimal digits of x, which is not 0 and is used up.
func decimal(x natural) string {
	var chunks []uint64
	for len(x) > 0 {
		chunks = append(chunks, divideWord(x, chunkBase))
		x = trim(x)
	}
	var text strings.Builder
	for i, chunk := range slices.Backward(chunks) {
		digits := strconv.FormatUint(chunk, 10)
		if i < len(chunks)-1 {
			text.WriteString(strings.Repeat("0", chunkDigits-len(digits)))
		}
		text.WriteString(digits)
	}
	return text.String()
}

// Parse returns the integer with the text s.
func Parse(s string) (api.Int, api.Errno) {
	if len(s) > api.MaxText {
		return api.Int{}, api.ErrLimit
	}
	return tryRead(s)
}

// tryRead reads a text, and turns the panic at a wrong byte into an error.
func tryRead(s string) (a api.Int, e api.Errno) {
	defer func() {
		if recover() != nil {
			a, e = api.Int{}, api.ErrSyntax
		}
	}()
	return read(s), api.OK
}

// read returns the integer with the text s; it panics if there is none.
func read(s string) api.Int {
	digits, negative := strings.CutPrefix(s, "-")
	if digits == "" || digits[0] == '0' && s != "0" {
		panic(api.ErrSyntax)
	}
	var x natural
	for len(digits) > 0 {
		n := (len(digits)-1)%chunkDigits + 1
		x = appendChunk(x, digits[:n])
		digits = digits[n:]
	}
	return signed(negative, x)
}

// appendChunk returns the number whose decimal digits are those of x and those of the chunk; x is used up. It panics at a byte that is no digit.
func appendChunk(x natural, chunk string) natural {
	value, base := uint64(0), uint64(1)
	for i := range len(chunk) {
		if chunk[i] < '0' || chunk[i] > '9' {
			panic(api.ErrSyntax)
		}
		value, base = 10*value+uint64(chunk[i]-'0'), 10*base
	}
	return trim(append(x, multiplyWord(x, base, value)))
}

// multiplyWord multiplies the digits of x in place by a factor, adds a summand, and returns what is carried beyond them.
func multiplyWord(x natural, factor, summand uint64) uint64 {
	for i, digit := range x {
		high, low := bits.Mul64(digit, factor)
		low, more := bits.Add64(low, summand, 0)
		x[i], summand = low, high+more
	}
	return summand
}
