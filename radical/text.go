package radical

import (
	"strings"

	"narrows/api"
	"narrows/bigint"
	"narrows/rational"
)

// textOf returns the text of a normal form, which can be too long.
func textOf(s api.Sum) string {
	if len(s) == 0 {
		return "0"
	}
	var text strings.Builder
	for i, t := range s {
		text.WriteString(signOf(t, i == 0))
		text.WriteString(absoluteOf(t))
	}
	return text.String()
}

// signOf returns what stands before a term.
func signOf(t api.Term, first bool) string {
	switch {
	case first && t.Coef.Neg:
		return "-"
	case first:
		return ""
	case t.Coef.Neg:
		return " - "
	}
	return " + "
}

// absoluteOf returns the text of a term without its sign.
func absoluteOf(t api.Term) string {
	coef := rational.Print(api.Rat{Num: t.Coef.Num, Den: t.Coef.Den})
	root := bigint.Print(t.Root)
	switch {
	case root == "1":
		return coef
	case coef == "1":
		return "sqrt(" + root + ")"
	}
	return coef + "*sqrt(" + root + ")"
}
