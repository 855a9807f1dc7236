package radical_test

import (
	"math/big"
	"math/rand"
	"strings"
	"testing"

	"narrows/api"
	"narrows/radical"
)

func TestTexts(t *testing.T) {
	for _, c := range []struct {
		s    api.Sum
		want string
	}{
		{nil, "0"},
		{sum(1, 2, -1, 2), "0"},
		{sum(1, 1), "1"},
		{sum(-1, 1), "-1"},
		{api.Sum{term(-3, 2, 1)}, "-3/2"},
		{roots(2), "sqrt(2)"},
		{sum(-1, 2), "-sqrt(2)"},
		{sum(1, 2, 6, 1, 2, 2), "6 + 3*sqrt(2)"},
		{sum(-1, 1, -1, 2), "-1 - sqrt(2)"},
		{sum(1, 1, 1, 2, -1, 3, -2, 5), "1 + sqrt(2) - sqrt(3) - 2*sqrt(5)"},
		{api.Sum{term(3, 2, 8), term(-1, 1, 2), term(0, 1, 5)}, "2*sqrt(2)"},
		{api.Sum{term(-1, 2, 3), term(10, 3, 1000003)}, "-1/2*sqrt(3) + 10/3*sqrt(1000003)"},
		{roots(101 * 101), "sqrt(10201)"},
		{roots(10, 101*101, 1), "102 + sqrt(10)"},
		{api.Sum{term(1, 11, 11)}, "1/11*sqrt(11)"},
	} {
		if text, e := radical.Print(c.s); e != api.OK || text != c.want {
			t.Errorf("P3.7: text of %s: %q, %d", show(c.s), text, e)
		}
	}
}

func TestTextsOfNormalForms(t *testing.T) {
	r := rand.New(rand.NewSource(8))
	for range 500 {
		s := random(r, 10)
		n, _ := radical.Normal(s)
		text, e := radical.Print(s)
		other, f := radical.Print(n)
		if e != api.OK || f != api.OK || text != other {
			t.Errorf("P3.7: texts of %s and its normal form: %q, %q, %d, %d", show(s), text, other, e, f)
		}
		want := written(n)
		if text != want {
			t.Errorf("P3.7: text of %s: %q instead of %q", show(s), text, want)
		}
	}
}

// written returns the text of a normal form, made from complete terms that are shortened.
func written(n api.Sum) string {
	text := ""
	for _, t := range n {
		text += " + " + ratioOf(t.Coef).RatString() + "*sqrt(" + valueOf(t.Root).String() + ")"
	}
	text = strings.ReplaceAll(text, " + -", " - ") + " "
	text = strings.ReplaceAll(text, " 1*sqrt(", " sqrt(")
	text = strings.ReplaceAll(text, " sqrt(1) ", " 1 ")
	text = strings.TrimSpace(strings.ReplaceAll(text, "*sqrt(1) ", " "))
	if positive, is := strings.CutPrefix(text, "+ "); is {
		return positive
	}
	if negative, is := strings.CutPrefix(text, "- "); is {
		return "-" + negative
	}
	return "0"
}

func TestLongTexts(t *testing.T) {
	// digits returns 10^(n-1), which has n digits.
	digits := func(n int64) *big.Rat {
		return new(big.Rat).SetInt(new(big.Int).Exp(big.NewInt(10), big.NewInt(n-1), nil))
	}
	for _, c := range []struct {
		coef *big.Rat
		root int64
		want api.Errno
	}{
		{digits(api.MaxText), 1, api.OK},
		{digits(api.MaxText + 1), 1, api.ErrLimit},
		{new(big.Rat).Neg(digits(api.MaxText - 1)), 1, api.OK},
		{new(big.Rat).Neg(digits(api.MaxText)), 1, api.ErrLimit},
		{digits(api.MaxText - 8), 2, api.OK},
		{digits(api.MaxText - 7), 2, api.ErrLimit},
	} {
		text, e := radical.Print(api.Sum{{Coef: number(c.coef), Root: integer(big.NewInt(c.root))}})
		if e != c.want || e == api.OK && len(text) != api.MaxText || e != api.OK && text != "" {
			t.Errorf("P3.7: a long text: %d bytes, %d", len(text), e)
		}
	}
}
