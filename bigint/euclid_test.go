package bigint

import (
	"math/big"
	"math/rand"
	"testing"
)

func bigOf(x natural) *big.Int {
	n := new(big.Int)
	for i := len(x) - 1; i >= 0; i-- {
		n.Lsh(n, 64)
		n.Or(n, new(big.Int).SetUint64(x[i]))
	}
	return n
}

func naturalOf(n *big.Int) natural {
	var x natural
	mask := new(big.Int).SetUint64(^uint64(0))
	for rest := new(big.Int).Set(n); rest.Sign() > 0; rest.Rsh(rest, 64) {
		x = append(x, new(big.Int).And(rest, mask).Uint64())
	}
	return x
}

// isLaterPair tells whether Euclid's algorithm leads from x and y to first and second.
func isLaterPair(x, y, first, second *big.Int) bool {
	for y.Sign() > 0 && x.Cmp(first) >= 0 {
		if x.Cmp(first) == 0 && y.Cmp(second) == 0 {
			return true
		}
		x, y = y, new(big.Int).Mod(x, y)
	}
	return x.Cmp(first) == 0 && y.Cmp(second) == 0
}

// nearPair returns two numbers whose quotient has the given kind of continued fraction: it is built backwards from a last pair by steps of Euclid's algorithm.
func nearPair(random *rand.Rand, bits, largest int) (*big.Int, *big.Int) {
	x, y := big.NewInt(int64(1+random.Intn(3))), big.NewInt(0)
	for x.BitLen() < bits {
		quotient := big.NewInt(int64(1 + random.Intn(largest)))
		x, y = new(big.Int).Add(y, quotient.Mul(quotient, x)), x
	}
	return x, y
}

func TestForeseenStepsAreEuclids(t *testing.T) {
	random := rand.New(rand.NewSource(8))
	foreseen := 0
	for range 20000 {
		largest := []int{1, 2, 3, 10, 1000, 1 << 30}[random.Intn(6)]
		x, y := nearPair(random, 65+random.Intn(200), largest)
		first, second := naturalOf(x), naturalOf(y)
		if len(second) < 2 {
			continue
		}
		many := foresee(first, second)
		if many.y == 0 {
			continue
		}
		foreseen++
		u, v := many.apply(first, second)
		if !isLaterPair(x, y, bigOf(u), bigOf(v)) {
			t.Fatalf("from %v, %v to %v, %v", x, y, bigOf(u), bigOf(v))
		}
	}
	if foreseen < 1000 {
		t.Errorf("only %d steps foreseen", foreseen)
	}
}
