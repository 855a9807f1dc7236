package rational_test

import (
	"math/big"
	"math/rand"
	"strings"
	"testing"

	"narrows/api"
	"narrows/rational"
)

// refused reports an error if a text is not refused with an error, and with no number.
func refused(t *testing.T, s string, expected api.Errno) {
	t.Helper()
	if r, e := rational.Parse(s); r != zero || e != expected {
		t.Errorf("P2.7: Parse(%.40q): %#v, %d", s, r, e)
	}
}

// parsed reports an error if a text is not read as the number of which it is the text.
func parsed(t *testing.T, s string) {
	t.Helper()
	v, _ := new(big.Rat).SetString(s)
	r, e := rational.Parse(s)
	if e != api.OK || r != number(v) {
		t.Errorf("P2.7: Parse(%.40q): %d", s, e)
	}
	if rational.Print(r) != s {
		t.Errorf("P2.7: Print(Parse(%.40q))", s)
	}
}

// isText returns whether s is the text of a number, according to the definition.
func isText(s string) bool {
	if strings.Trim(s, "-/0123456789") != "" || strings.HasPrefix(s, "/") {
		return false
	}
	v, is := new(big.Rat).SetString(s)
	return is && v.RatString() == s
}

func TestTextsOfNumbers(t *testing.T) {
	for _, r := range samples() {
		s := rational.Print(r)
		if x, e := rational.Parse(s); x != r || e != api.OK {
			t.Errorf("P2.7: Parse(%q): %#v, %d", s, x, e)
		}
		for _, x := range variants(r) {
			if rational.Print(x) != s {
				t.Errorf("P2.7: Print(%#v): %q", x, rational.Print(x))
			}
		}
	}
	for _, s := range []string{"0", "1", "-1", "10", "1/2", "-1/2", "3/2", "1/10", "-255/256", "18446744073709551616/18446744073709551617", "-1/340282366920938463463374607431768211456"} {
		parsed(t, s)
	}
}

func TestTextsThatAreRefused(t *testing.T) {
	for _, s := range []string{
		"", "-", "/", "//", "-/", "/2", "1/", "-1/", "-/2", "0/", "/0",
		"1/1", "-1/1", "0/1", "0/2", "-0", "-0/2", "2/2", "2/4", "-6/4", "4/2", "18446744073709551616/2",
		"1/0", "0/0", "1/-2", "-1/-2", "1/+2", "1/00", "1/02", "01/2", "00/1", "-01/2", "1/-0",
		"1/2/3", "1//2", "1/2/", "/1/2", "1 /2", "1/ 2", " 1/2", "1/2 ", "1/2\n", "+1/2", "--1/2", "1-/2", "1/2-",
		"1.5", "0.5", "1/2.0", "1e3", "1/1e3", "0x1/2", "1_0/3", "1\x00/2", "1/2\x00", "\u0661/2", "1\\2", "1:2", "1\u20442", "nil", "a/b", "\xff/\xfe",
	} {
		refused(t, s, api.ErrSyntax)
	}
}

// Each text of few bytes is read exactly if it is the text of a number.
func TestShortTexts(t *testing.T) {
	const bytes = "-/0123469+. "
	var try func(s string, more int)
	try = func(s string, more int) {
		if isText(s) {
			parsed(t, s)
		} else {
			refused(t, s, api.ErrSyntax)
		}
		for i := 0; i < len(bytes) && more > 0; i++ {
			try(s+bytes[i:i+1], more-1)
		}
	}
	try("", 5)
}

func TestSingleBytes(t *testing.T) {
	for i := range 256 {
		c := string([]byte{byte(i)})
		digit := '0' <= i && i <= '9'
		for _, s := range []string{c, c + "/7", "3/" + c, "3" + c + "7", "3/7" + c, c + "3/7"} {
			if is := digit || c == "-" || c == "/"; !is {
				refused(t, s, api.ErrSyntax)
			} else if isText(s) {
				parsed(t, s)
			} else {
				refused(t, s, api.ErrSyntax)
			}
		}
	}
}

func TestLongTexts(t *testing.T) {
	half := strings.Repeat("7", api.MaxText/2-1)
	longest := half + "/1" + strings.Repeat("0", api.MaxText/2-1)
	parsed(t, longest)
	parsed(t, "-"+longest[1:])
	parsed(t, strings.Repeat("7", api.MaxText))
	refused(t, "-"+longest, api.ErrLimit)
	refused(t, longest+"0", api.ErrLimit)
	refused(t, strings.Repeat("x", api.MaxText+1), api.ErrLimit)
	refused(t, strings.Repeat("/", api.MaxText+1), api.ErrLimit)
	refused(t, strings.Repeat("/", api.MaxText), api.ErrSyntax)
	refused(t, half+"/"+half, api.ErrSyntax)
	refused(t, longest[1:]+"x", api.ErrSyntax)
}

func TestTextsBeyondTheLimitArePrinted(t *testing.T) {
	r := over(power(300000, 1), power(300000, -1))
	s := rational.Print(r)
	if s != value(r).RatString() || len(s) <= api.MaxText {
		t.Error("P2.1: Print of a very long number")
	}
	refused(t, s, api.ErrLimit)
}

func TestRandomTexts(t *testing.T) {
	r := rand.New(rand.NewSource(7))
	for range 5000 {
		a := random(r, 1+r.Intn(30))
		s := rational.Print(a)
		parsed(t, s)
		changed := []byte(s)
		changed[r.Intn(len(changed))] = "-/0123456789 +.x"[r.Intn(16)]
		if s := string(changed); isText(s) {
			parsed(t, s)
		} else {
			refused(t, s, api.ErrSyntax)
		}
	}
}
