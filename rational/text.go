package rational

import (
	"strings"

	"narrows/api"
	"narrows/bigint"
)

// Print returns the text of r.
func Print(r api.Rat) string {
	num, den := Parts(r)
	if den.Mag == one {
		return bigint.Print(num)
	}
	return bigint.Print(num) + "/" + bigint.Print(den)
}

// Parse returns the number with the text s.
func Parse(s string) (api.Rat, api.Errno) {
	if len(s) > api.MaxText {
		return api.Rat{}, api.ErrLimit
	}
	above, below, divided := strings.Cut(s, "/")
	num, e := bigint.Parse(above)
	if e != api.OK {
		return api.Rat{}, e
	}
	if !divided {
		return api.Rat{Neg: num.Neg, Num: num.Mag}, api.OK
	}
	den, e := bigint.Parse(below)
	if e != api.OK {
		return api.Rat{}, e
	}
	return written(num, den)
}

// written returns num / den, if its text consists of those of num and den.
func written(num, den api.Int) (api.Rat, api.Errno) {
	r := api.Rat{Neg: num.Neg, Num: num.Mag, Den: den.Mag}
	if den.Neg || den.Mag == "" || Check(r) != api.OK {
		return api.Rat{}, api.ErrSyntax
	}
	return r, api.OK
}
