package radical

import (
	"slices"

	"narrows/api"
	"narrows/bigint"
	"narrows/rational"
)

// classes are classes of reduced roots: the least root of each one, in ascending order, and a map from these roots to the sums of Coefs that were collected.
type classes struct {
	roots []api.Int
	coefs map[api.Int]api.Rat
}

// normal returns the normal form of a sum without negative roots, which can have more terms than a valid one.
func normal(s api.Sum) api.Sum {
	terms := reducedTerms(s)
	// So the least root of each class is the first one that is collected.
	slices.SortFunc(terms, func(t, u api.Term) int { return bigint.Compare(t.Root, u.Root) })
	c := classes{coefs: map[api.Int]api.Rat{}}
	for _, t := range terms {
		c.collect(t)
	}
	return c.sum()
}

// reducedTerms returns the terms of s that have not the value 0, reduced.
func reducedTerms(s api.Sum) api.Sum {
	var terms api.Sum
	for _, t := range s {
		if rational.Sign(t.Coef) == 0 || bigint.Bits(t.Root) == 0 {
			continue
		}
		root, factor := reduced(t.Root)
		terms = append(terms, api.Term{Coef: rational.Mul(t.Coef, whole(factor)), Root: root})
	}
	return terms
}

// collect adds a term to those of its class.
func (c *classes) collect(t api.Term) {
	root, factor := c.find(t.Root)
	coef, known := c.coefs[root]
	if !known {
		c.roots = append(c.roots, root)
	}
	c.coefs[root] = rational.Add(coef, rational.Mul(t.Coef, factor))
}

// find returns the least root of the class of a root, which is the root itself if its class is not known, and the quotient of the square roots of both.
func (c *classes) find(root api.Int) (api.Int, api.Rat) {
	if _, known := c.coefs[root]; known {
		return root, rational.Of(1)
	}
	for _, least := range c.roots {
		if !alike(least, root) {
			continue
		}
		if k, exact, _ := bigint.Root(bigint.Mul(least, root)); exact {
			quotient, _ := rational.New(k, least)
			return least, quotient
		}
	}
	return root, rational.Of(1)
}

// sum returns the sum of what was collected.
func (c *classes) sum() api.Sum {
	var s api.Sum
	for _, root := range c.roots {
		if coef := c.coefs[root]; rational.Sign(coef) != 0 {
			s = append(s, api.Term{Coef: coef, Root: root})
		}
	}
	return s
}

// alike returns whether two reduced integers have the same remainder modulo 24, which spares most square roots: those of one class are multiples of one number by squares that 2 and 3 do not divide, and the remainder of such a square is 1.
func alike(x, y api.Int) bool {
	return remainder(x, 24) == remainder(y, 24)
}

// remainder returns the remainder of a positive integer by a small number.
func remainder(x api.Int, divisor int) int {
	rest := 0
	for i := range len(x.Mag) {
		rest = (rest<<8 | int(x.Mag[i])) % divisor
	}
	return rest
}

// whole returns a canonical integer as a number.
func whole(n api.Int) api.Rat {
	return api.Rat{Neg: n.Neg, Num: n.Mag}
}
