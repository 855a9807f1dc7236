package bigint_test

import (
	"math/big"
	"math/rand"
	"strings"
	"testing"

	"narrows/api"
	"narrows/bigint"
)

// refused reports an error if a text is not refused with an error, and with no integer.
func refused(t *testing.T, s string, want api.Errno) {
	t.Helper()
	if a, e := bigint.Parse(s); a != (api.Int{}) || e != want {
		t.Errorf("P1.7: Parse(%.40q): %v, %d", s, a, e)
	}
}

// parsed reports an error if a text is not read as the integer of which it is the text.
func parsed(t *testing.T, s string) {
	t.Helper()
	v, _ := new(big.Int).SetString(s, 10)
	a, e := bigint.Parse(s)
	if e != api.OK || a != integer(v) {
		t.Errorf("P1.7: Parse(%.40q): %d", s, e)
	}
	if bigint.Print(a) != s {
		t.Errorf("P1.7: Print(Parse(%.40q))", s)
	}
}

func TestTextsOfIntegers(t *testing.T) {
	for _, a := range samples() {
		s := bigint.Print(a)
		if b, e := bigint.Parse(s); b != a || e != api.OK {
			t.Errorf("P1.7: Parse(%q): %v, %d", s, b, e)
		}
		if strings.HasPrefix(s, "-") != (value(a).Sign() < 0) {
			t.Errorf("P1.7: the sign of %q", s)
		}
	}
	for _, x := range variants(api.Int{}) {
		if s := bigint.Print(x); s != "0" {
			t.Errorf("P1.7: Print(%v): %q", x, s)
		}
	}
}

// Lengths around multiples of 19 digits, and inner zeros, matter if digits are read in chunks.
func TestTextsOfAllLengths(t *testing.T) {
	for n := 1; n <= 120; n++ {
		for _, s := range []string{strings.Repeat("9", n), "1" + strings.Repeat("0", n), "1" + strings.Repeat("0", n) + "7", strings.Repeat("8", n) + strings.Repeat("0", 40)} {
			parsed(t, s)
			parsed(t, "-"+s)
		}
	}
}

func TestTextsThatAreRefused(t *testing.T) {
	for _, s := range []string{"", "-", "--", "-0", "00", "000", "01", "-01", "-00", "+0", "+1", " 1", "1 ", "1\n", "1.0", "1/2", "--1", "1-", "-1-", "12a", "a12", "0x10", "1_000", "1e3", "\x00", "1\x00", "\xff", "1\xff2", "\u0661", "/", ":", "1/", "1:", "\u22121", "0 ", "0-", "nil"} {
		refused(t, s, api.ErrSyntax)
	}
	digits := strings.Repeat("1234567890", 6)
	for i := range len(digits) {
		for _, wrong := range []string{"-", "/", ":", " ", "\x00", "\xb1"} {
			if i > 0 || wrong != "-" {
				refused(t, digits[:i]+wrong+digits[i+1:], api.ErrSyntax)
			}
		}
	}
}

// Single bytes, and pairs of them, are texts of integers only if they consist of digits, without a needless zero, or of a minus sign and a digit.
func TestTextsOfTwoBytes(t *testing.T) {
	for i := range 256 {
		for j := range 256 {
			first, second := byte(i), byte(j)
			s := string([]byte{first, second})
			digit := func(c byte) bool { return '0' <= c && c <= '9' }
			if digit(second) && (digit(first) && first != '0' || first == '-' && second != '0') {
				parsed(t, s)
			} else {
				refused(t, s, api.ErrSyntax)
			}
		}
		if s := string([]byte{byte(i)}); '0' <= i && i <= '9' {
			parsed(t, s)
		} else {
			refused(t, s, api.ErrSyntax)
		}
	}
}

func TestLongTexts(t *testing.T) {
	longest := strings.Repeat("7", api.MaxText)
	parsed(t, longest)
	parsed(t, "-"+longest[1:])
	refused(t, "-"+longest, api.ErrLimit)
	refused(t, longest+"7", api.ErrLimit)
	refused(t, strings.Repeat("x", api.MaxText+1), api.ErrLimit)
	refused(t, strings.Repeat("0", api.MaxText+1), api.ErrLimit)
	refused(t, strings.Repeat("0", api.MaxText), api.ErrSyntax)
	refused(t, longest[1:]+"x", api.ErrSyntax)
	refused(t, strings.Repeat("-", api.MaxText), api.ErrSyntax)
}

func TestTextsBeyondTheLimitArePrinted(t *testing.T) {
	a := power(300000, -1)
	if s := bigint.Print(a); s != value(a).String() || len(s) <= api.MaxText {
		t.Error("P1.1: Print of a very long integer")
	}
}

func TestRandomTexts(t *testing.T) {
	r := rand.New(rand.NewSource(6))
	const bytes = "-0123456789 +.x"
	for range 5000 {
		s := make([]byte, r.Intn(30))
		for i := range s {
			s[i] = bytes[r.Intn(11+r.Intn(5))]
		}
		a, e := bigint.Parse(string(s))
		v, is := new(big.Int).SetString(string(s), 10)
		if is && v.String() == string(s) {
			want(t, "P1.7: Parse", a, v)
		} else if e != api.ErrSyntax || a != (api.Int{}) {
			t.Errorf("P1.7: Parse(%q): %v, %d", s, a, e)
		}
	}
}
