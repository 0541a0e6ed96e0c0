package tests

import (
	"fmt"
	"math"
	"math/big"
	"regexp"
	"slices"
	"strconv"
	"strings"
	"testing"

	"loop.example/g01007/impl"
)

func surd(p, d, q int64) impl.Surd {
	return impl.Surd{P: p, D: d, Q: q}
}

// surdOutcome is what a function returns that has a surd as its result.
type surdOutcome struct {
	s    impl.Surd
	code int64
}

func surdOutcomeOf(s impl.Surd, code int64) surdOutcome {
	return surdOutcome{s, code}
}

// product is a product in numbers without limits.
func product(numbers ...int64) *big.Int {
	all := big.NewInt(1)
	for _, n := range numbers {
		all.Mul(all, big.NewInt(n))
	}
	return all
}

// sum is the sum of numbers without limits.
func sum(numbers ...*big.Int) *big.Int {
	all := new(big.Int)
	for _, n := range numbers {
		all.Add(all, n)
	}
	return all
}

// isSquare tells whether a number is the square of an integer.
func isSquare(n int64) bool {
	if n < 0 {
		return false
	}
	root := new(big.Int).Sqrt(big.NewInt(n)).Int64()
	return root*root == n
}

// surdByRule tells what the document calls a plain surd.
func surdByRule(s impl.Surd) bool {
	if s.D < 2 || s.D > 1e6 || s.P < -1e6 || s.P > 1e6 || s.Q < -1e6 || s.Q > 1e6 || s.Q == 0 || isSquare(s.D) {
		return false
	}
	rest := sum(big.NewInt(s.D), product(-1, s.P, s.P))
	return rest.Rem(rest, big.NewInt(s.Q)).Sign() == 0
}

// sideByRule is the sign of a surd less a number: that of Den * P - Num * Q + Den * r, or the other one if Q is negative.
func sideByRule(s impl.Surd, f *big.Rat) int {
	den, num := f.Denom(), f.Num()
	whole := new(big.Int).Mul(den, big.NewInt(s.P))
	whole.Sub(whole, new(big.Int).Mul(num, big.NewInt(s.Q)))
	side := 1
	if whole.Sign() < 0 {
		square := new(big.Int).Mul(den, den)
		side = square.Mul(square, big.NewInt(s.D)).Cmp(new(big.Int).Mul(whole, whole))
	}
	if s.Q < 0 {
		return -side
	}
	return side
}

// between tells whether a surd is greater than low and less than high.
func between(low int64, s impl.Surd, high int64) bool {
	return sideByRule(s, big.NewRat(low, 1)) > 0 && sideByRule(s, big.NewRat(high, 1)) < 0
}

// signs are a number and its opposite.
func signs(numbers ...int64) []int64 {
	var list []int64
	for _, n := range numbers {
		list = append(list, n, -n)
	}
	return list
}

// smallSurds are all plain surds with small numbers.
func smallSurds() []impl.Surd {
	var list []impl.Surd
	for p := int64(-9); p <= 9; p++ {
		for d := int64(2); d <= 24; d++ {
			for q := int64(-9); q <= 9; q++ {
				if s := surd(p, d, q); surdByRule(s) {
					list = append(list, s)
				}
			}
		}
	}
	return list
}

// greatSurds are plain surds of all sizes up to the limits of P, D and Q. The squares of the same P have the same rest
// by Q as each D.
func greatSurds() []impl.Surd {
	var list []impl.Surd
	sizes := []int64{1, 2, 3, 7, 998, 999, 1000, 1001, 46341, 500000, 707107, 998999, 999000, 999990, 999998, 999999, 1000000}
	for _, p := range append(signs(sizes...), 0) {
		for _, q := range signs(sizes...) {
			size := max(q, -q)
			least := p * p % size
			most := least + (impl.MaxD-least)/size*size
			for _, d := range []int64{least, least + size, least + 2*size, most - size, most} {
				if s := surd(p, d, q); surdByRule(s) {
					list = append(list, s)
				}
			}
		}
	}
	return list
}

// steepSurds are plain surds with a negative Q near its limit and the greatest next surds.
func steepSurds() []impl.Surd {
	var list []impl.Surd
	for q := int64(impl.MaxSurd); q > impl.MaxSurd-1500; q -= 7 {
		for _, j := range []int64{0, 1, 2, 3, 10, 30} {
			for _, p := range []int64{-j, q - j} {
				for _, d := range []int64{j*j + q, j*j + q - 1, j * j} {
					if s := surd(p, d, -q); surdByRule(s) {
						list = append(list, s)
					}
				}
			}
		}
	}
	return list
}

// mixedSurds are plain surds from a generator that always gives the same ones; each Q divides D - P * P.
func mixedSurds(count int) []impl.Surd {
	state := uint64(11)
	next := func(below int64) int64 {
		state = state*6364136223846793005 + 1442695040888963407
		return int64(state>>33) % below
	}
	var list []impl.Surd
	for len(list) < count {
		most := []int64{10, 300, 5000, impl.MaxSurd}[len(list)%4]
		p, q := next(2*most+1)-most, 1+next(most)
		d := p*p%q + q*next(impl.MaxD/q)
		if next(2) == 0 {
			q = -q
		}
		if s := surd(p, d, q); surdByRule(s) {
			list = append(list, s)
		}
	}
	return list
}

// knownSurds are plain surds at the limits and of each sort: less than 0, from 0 to 1, and greater than 1.
var knownSurds = []impl.Surd{
	{P: 1, D: 5, Q: 2}, {P: -1, D: 5, Q: 2}, {P: -1, D: 5, Q: -2}, {P: 1, D: 5, Q: -2}, {P: 0, D: 2, Q: 1}, {P: 0, D: 2, Q: -1}, {P: 0, D: 2, Q: 2}, {P: 0, D: 2, Q: -2},
	{P: 0, D: 999999, Q: 1}, {P: 0, D: 999999, Q: -1}, {P: 999, D: 999999, Q: 1}, {P: 999, D: 999999, Q: 2}, {P: -999, D: 999999, Q: -1998},
	{P: 1e6, D: 2, Q: 1}, {P: -1e6, D: 2, Q: 1}, {P: 1e6, D: 2, Q: -1}, {P: -1e6, D: 2, Q: -1}, {P: 1e6, D: 999999, Q: 1}, {P: -1e6, D: 999999, Q: -1},
	{P: 1001, D: 2001, Q: 1e6}, {P: -1001, D: 2001, Q: 1e6}, {P: 1001, D: 2001, Q: -1e6}, {P: -1001, D: 2001, Q: -1e6}, {P: 998999, D: 2001, Q: -1e6},
	{P: 0, D: 999999, Q: 999999}, {P: 0, D: 999999, Q: -999999}, {P: 0, D: 999998, Q: -999998}, {P: 0, D: 500000, Q: 1e6 / 2}, {P: 2, D: 7, Q: 3}, {P: -2, D: 7, Q: -3},
}

func allSurds() []impl.Surd {
	return slices.Concat(knownSurds, smallSurds(), greatSurds(), steepSurds(), mixedSurds(1200))
}

// noSurds are surds that are not plain, for each of the reasons.
func noSurds() []impl.Surd {
	list := []impl.Surd{
		{}, surd(1, 5, 0), surd(0, 2, 0), surd(0, 0, 0), surd(1, 5, 3), surd(1, 5, -3), surd(0, 2, 4), surd(0, 2, -4), surd(1, 2, 2), surd(1, 5, 8), surd(1, 5, -1e6),
		surd(0, 0, 1), surd(0, 1, 1), surd(0, 4, 1), surd(1, 4, 1), surd(1, 4, 3), surd(1, 9, 2), surd(0, 999*999, 1), surd(999, 999*999, 1), surd(0, 1e6, 1), surd(0, 1e6, -1), surd(0, 1e6, 1e6),
		surd(0, -1, 1), surd(0, -2, 1), surd(1, -3, 2), surd(0, -1e6, 1), surd(0, -999999, 1), surd(0, 1e6+1, 1), surd(0, 1e6+2, 1), surd(1000, 1000001, 1), surd(0, 1e6+1, 101),
		surd(1e6+1, 2, 1), surd(-1e6-1, 2, 1), surd(1e6+1, 2, -1), surd(-1e6-1, 2, -1), surd(0, 2, 1e6+1), surd(0, 2, -1e6-1), surd(1, 1e6+2, 1e6+1), surd(1, 1e6+2, -1e6-1),
		surd(1000, 999998, 1e6+2), surd(1000, 999998, 2e6+4), surd(1<<32+1, 5, 2), surd(1, 1<<32+5, 2), surd(1, 5, 1<<32+2), surd(1<<32, 2, 1), surd(3037000500, 2, 1),
	}
	for _, n := range append(slices.Clone(wide), 1e6-1, 1e6, 1e6+1, -1e6+1, -1e6, -1e6-1, 999998) {
		for _, s := range []impl.Surd{surd(n, 5, 1), surd(n, 5, -1), surd(n, 5, 2), surd(1, n, 1), surd(1, n, -1), surd(0, n, n), surd(1, n, 2), surd(1, 5, n), surd(0, 2, n), surd(n, n, n), surd(n, 2, n)} {
			if !surdByRule(s) {
				list = append(list, s)
			}
		}
	}
	return list
}

func TestSurdConstants(t *testing.T) {
	if impl.MaxD != 1000000 || impl.MaxSurd != 1000000 {
		t.Errorf("MaxD is %d, MaxSurd is %d", impl.MaxD, impl.MaxSurd)
	}
}

// rootedNumbers are squares, numbers beside squares, and others, from 0 to 10^18.
func rootedNumbers() []int64 {
	list := []int64{0, 1, 2, 3, 999999999999999999, 1000000000000000000}
	for n := int64(0); n <= 3000; n++ {
		list = append(list, n)
	}
	roots := []int64{1e3, 46340, 46341, 65535, 65536, 94906265, 94906266, 94906267, 1 << 27, 1<<29 - 1, 1 << 29, 1<<29 + 1, 707106781, 707106782, 3e8, 1e9 - 2, 1e9 - 1, 1e9}
	for root := int64(7); root < 1e9; root = root*17/16 + 1 {
		roots = append(roots, root)
	}
	for _, root := range roots {
		list = append(list, root*root-1, root*root, root*root+1, root*root+root, root*root+2*root)
	}
	return slices.DeleteFunc(list, func(n int64) bool { return n > 1e18 })
}

func TestRootOf(t *testing.T) {
	for _, n := range rootedNumbers() {
		want := new(big.Int).Sqrt(big.NewInt(n)).Int64()
		root, exact, code := impl.RootOf(n)
		if root != want || exact != (want*want == n) || code != impl.OK {
			t.Fatalf("RootOf(%d) = %d, %v, %d, want %d", n, root, exact, code, want)
		}
		if product(root, root).Cmp(big.NewInt(n)) > 0 || product(root+1, root+1).Cmp(big.NewInt(n)) <= 0 {
			t.Fatalf("the root of %d is told as %d", n, root)
		}
	}
	for n, want := range map[int64]string{
		0: "0 true 0", 1: "1 true 0", 2: "1 false 0", 3: "1 false 0", 4: "2 true 0", 50: "7 false 0", 1e18: "1000000000 true 0", 1e18 - 1: "999999999 false 0",
		999999998000000001: "999999999 true 0", 999999998000000000: "999999998 false 0", 999999998000000002: "999999999 false 0",
		1e18 + 1: "0 false 2", -1: "0 false 2", -4: "0 false 2", -1e18: "0 false 2", math.MinInt64: "0 false 2", math.MaxInt64: "0 false 2", 1e18 + 2e9 + 1: "0 false 2",
	} {
		root, exact, code := impl.RootOf(n)
		if got := fmt.Sprint(root, exact, code); got != want {
			t.Errorf("RootOf(%d) = %s, want %s", n, got, want)
		}
	}
	for _, n := range wide {
		root, exact, code := impl.RootOf(n)
		if (n < 0 || n > 1e18) && (root != 0 || exact || code != impl.ErrRange) {
			t.Errorf("RootOf(%d) = %d, %v, %d", n, root, exact, code)
		}
	}
}

func TestValidSurd(t *testing.T) {
	for _, s := range allSurds() {
		if !impl.ValidSurd(s) {
			t.Fatalf("ValidSurd(%v) is false", s)
		}
	}
	for _, s := range noSurds() {
		if surdByRule(s) || impl.ValidSurd(s) {
			t.Errorf("ValidSurd(%v) is %v, by the rule %v", s, impl.ValidSurd(s), surdByRule(s))
		}
	}
	for p := int64(-6); p <= 6; p++ {
		for d := int64(-2); d <= 26; d++ {
			for q := int64(-13); q <= 13; q++ {
				if s := surd(p, d, q); impl.ValidSurd(s) != surdByRule(s) {
					t.Errorf("ValidSurd(%v) = %v", s, impl.ValidSurd(s))
				}
			}
		}
	}
}

// madeByRule is what MakeSurd returns by the document.
func madeByRule(p, d, q int64) surdOutcome {
	if p < -1e6 || p > 1e6 || q < -1e6 || q > 1e6 || d < 0 || d > 1e6 || q == 0 {
		return surdOutcome{code: impl.ErrRange}
	}
	if isSquare(d) {
		return surdOutcome{code: impl.ErrState}
	}
	if (d-p*p)%q == 0 {
		return surdOutcome{s: surd(p, d, q)}
	}
	size := max(q, -q)
	if made := surd(p*size, d*q*q, q*size); surdByRule(made) {
		return surdOutcome{s: made}
	}
	return surdOutcome{code: impl.ErrFull}
}

// numbersOfSurds are small numbers, and ones around the limits of surds.
func numbersOfSurds() []int64 {
	list := []int64{0, 576, 577, 707, 708, 1000, 1001, 1414, 1415, 99999, 100000, 499999, 500000, 999998, 999999, 1e6, 1e6 + 1, 1e6 + 2, 1<<32 + 3}
	for n := int64(1); n <= 12; n++ {
		list = append(list, n)
	}
	return slices.Concat(signs(list...), []int64{math.MinInt64, math.MinInt64 + 1, math.MaxInt64, -1e18, 1e18})
}

func TestMakeSurd(t *testing.T) {
	counts := map[int64]int{}
	given, multiplied := 0, 0
	numbers := numbersOfSurds()
	for _, p := range numbers {
		for _, d := range numbers {
			for _, q := range numbers {
				want := madeByRule(p, d, q)
				got := surdOutcomeOf(impl.MakeSurd(p, d, q))
				if got != want {
					t.Fatalf("MakeSurd(%d, %d, %d) = %v, want %v", p, d, q, got, want)
				}
				counts[want.code]++
				if want.s == surd(p, d, q) {
					given++
				} else if want.code == impl.OK {
					multiplied++
					equalSurds(t, surd(p, d, q), got.s)
				}
			}
		}
	}
	for _, code := range []int64{impl.OK, impl.ErrRange, impl.ErrState, impl.ErrFull} {
		if counts[code] < 500 {
			t.Errorf("only %d results have the code %d", counts[code], code)
		}
	}
	if given < 500 || multiplied < 500 {
		t.Errorf("only %d given surds and %d others were looked at", given, multiplied)
	}
}

// equalSurds looks at numbers that need not be plain: P / Q is equal, D / (Q * Q) is equal, and Q has the same sign.
func equalSurds(t *testing.T, a, b impl.Surd) {
	t.Helper()
	if product(a.P, b.Q).Cmp(product(b.P, a.Q)) != 0 || product(a.D, b.Q, b.Q).Cmp(product(b.D, a.Q, a.Q)) != 0 || (a.Q > 0) != (b.Q > 0) {
		t.Fatalf("%v is not equal to %v", a, b)
	}
}

func TestMakeSurdKnown(t *testing.T) {
	full, state, out := surdOutcome{code: impl.ErrFull}, surdOutcome{code: impl.ErrState}, surdOutcome{code: impl.ErrRange}
	cases := []struct {
		p, d, q int64
		want    surdOutcome
	}{
		{1, 5, 2, surdOutcome{s: surd(1, 5, 2)}}, {1, 5, -2, surdOutcome{s: surd(1, 5, -2)}}, {1, 3, 5, surdOutcome{s: surd(5, 75, 25)}}, {1, 3, -5, surdOutcome{s: surd(5, 75, -25)}},
		{-1, 3, 5, surdOutcome{s: surd(-5, 75, 25)}}, {-1, 3, -5, surdOutcome{s: surd(-5, 75, -25)}}, {0, 2, 3, surdOutcome{s: surd(0, 18, 9)}}, {0, 2, 2, surdOutcome{s: surd(0, 2, 2)}},
		{0, 2, 1, surdOutcome{s: surd(0, 2, 1)}}, {0, 2, -1, surdOutcome{s: surd(0, 2, -1)}}, {1e6, 2, 1, surdOutcome{s: surd(1e6, 2, 1)}}, {-1e6, 999999, -1, surdOutcome{s: surd(-1e6, 999999, -1)}},
		{1001, 2001, -1e6, surdOutcome{s: surd(1001, 2001, -1e6)}}, {0, 2, 707, surdOutcome{s: surd(0, 999698, 499849)}}, {0, 2, -707, surdOutcome{s: surd(0, 999698, -499849)}},
		{1, 2, 708, full}, {1, 2, -708, full}, {1414, 3, 577, surdOutcome{s: surd(815878, 998787, 332929)}}, {1734, 3, 577, full}, {-1734, 3, -577, full}, {1, 3, 578, full}, {1, 5, 1e6, full},
		{1e6, 2, 3, full}, {-1e6, 2, 3, full}, {0, 999999, 2, full}, {500000, 3, 3, full}, {333333, 2, 3, surdOutcome{s: surd(999999, 18, 9)}}, {333334, 2, 3, full},
		{1, 4, 5, state}, {0, 0, 1, state}, {0, 1, 1, state}, {0, 1e6, 1, state}, {1e6, 1e6, -1e6, state}, {1, 998001, 7, state}, {1, 3, 0, out}, {1, 4, 0, out}, {0, 0, 0, out},
		{1, -1, 5, out}, {1, -4, 5, out}, {1, 1e6 + 1, 5, out}, {1, 1002001, 5, out}, {1e6 + 1, 4, 1, out}, {-1e6 - 1, 4, 1, out}, {0, 4, 1e6 + 1, out}, {0, 4, -1e6 - 1, out},
		{math.MinInt64, 2, 1, out}, {math.MaxInt64, 2, 1, out}, {0, math.MinInt64, 1, out}, {0, math.MaxInt64, 1, out}, {0, 2, math.MinInt64, out}, {0, 2, math.MaxInt64, out},
		{1, math.MinInt64, -1, out}, {math.MinInt64, math.MinInt64, math.MinInt64, out},
	}
	for _, c := range cases {
		if got := surdOutcomeOf(impl.MakeSurd(c.p, c.d, c.q)); got != c.want {
			t.Errorf("MakeSurd(%d, %d, %d) = %v, want %v", c.p, c.d, c.q, got, c.want)
		}
	}
}

// sortsOf tells how many surds are less than 0, from 0 to 1, and greater than 1.
func sortsOf(list []impl.Surd) [3]int {
	var counts [3]int
	for _, s := range list {
		switch {
		case sideByRule(s, big.NewRat(0, 1)) < 0:
			counts[0]++
		case sideByRule(s, big.NewRat(1, 1)) < 0:
			counts[1]++
		default:
			counts[2]++
		}
	}
	return counts
}

func TestFloorSurd(t *testing.T) {
	for _, s := range allSurds() {
		if floor, code := impl.FloorSurd(s); code != impl.OK || !between(floor, s, floor+1) {
			t.Fatalf("FloorSurd(%v) = %d, %d", s, floor, code)
		}
	}
	for sort, count := range sortsOf(allSurds()) {
		if count < 500 {
			t.Errorf("only %d surds of the sort %d were looked at", count, sort)
		}
	}
	for s, want := range map[impl.Surd]int64{
		surd(1, 5, 2): 1, surd(-1, 5, 2): 0, surd(-1, 5, -2): -1, surd(1, 5, -2): -2, surd(0, 2, 1): 1, surd(0, 2, -1): -2, surd(-1, 2, 1): 0, surd(-2, 2, 1): -1, surd(-3, 2, 1): -2,
		surd(0, 2, 2): 0, surd(0, 2, -2): -1, surd(1e6, 2, 1): 1000001, surd(1e6, 2, -1): -1000002, surd(-1e6, 2, 1): -999999, surd(-1e6, 2, -1): 999998, surd(0, 999999, 1): 999, surd(0, 999999, -1): -1000,
		surd(1e6, 999999, 1): 1000999, surd(1e6, 999999, -1): -1001000, surd(-1e6, 999999, -1): 999000, surd(1001, 2001, 1e6): 0, surd(1001, 2001, -1e6): -1, surd(-1001, 2001, 1e6): -1, surd(-1001, 2001, -1e6): 0,
		surd(2, 7, 3): 1, surd(-2, 7, 3): 0, surd(-2, 7, -3): -1, surd(2, 7, -3): -2, surd(-5, 7, 3): -1, surd(-5, 7, -3): 0,
	} {
		if floor, code := impl.FloorSurd(s); floor != want || code != impl.OK {
			t.Errorf("FloorSurd(%v) = %d, %d, want %d", s, floor, code, want)
		}
	}
}

// closeFractions are fractions on both sides of a surd, within the limits of CompareSurd: its floor and the next integer,
// the last places between which halving with mediants leads, and fractions at the limits.
func closeFractions(s impl.Surd) []impl.Fraction {
	floor, _ := impl.FloorSurd(s)
	list := []impl.Fraction{frac(0, 1), frac(1, 1), frac(-1, 1), frac(1e6, 1), frac(-1e6, 1), frac(1, 1e6), frac(-1, 1e6), frac(999999, 1e6), frac(-1e6, 999999)}
	low, high := frac(floor, 1), frac(floor+1, 1)
	list = append(list, low, high, frac(floor-1, 1), frac(floor+2, 1), frac(2*floor+1, 2))
	for step := 0; step < 400; step++ {
		mid := frac(low.Num+high.Num, low.Den+high.Den)
		if mid.Den > 1e6 || mid.Num > 1e6 || mid.Num < -1e6 {
			break
		}
		if sideByRule(s, ratOf(mid)) > 0 {
			low = mid
		} else {
			high = mid
		}
		if step%5 == 0 {
			list = append(list, mid)
		}
	}
	list = append(list, low, high)
	return slices.DeleteFunc(list, func(f impl.Fraction) bool { return !plainByRule(f) || f.Num > 1e6 || f.Num < -1e6 })
}

func TestCompareSurd(t *testing.T) {
	counts := map[int64]int{}
	for i, s := range allSurds() {
		fractions := closeFractions(s)
		if i%50 == 0 {
			fractions = append(fractions, manyFractions()...)
		}
		for _, f := range fractions {
			want, wantCode := int64(sideByRule(s, ratOf(f))), int64(impl.OK)
			if f.Num < -1e6 || f.Num > 1e6 || f.Den > 1e6 {
				want, wantCode = 0, impl.ErrRange
			}
			counts[want]++
			if got, code := impl.CompareSurd(s, f); got != want || code != wantCode {
				t.Fatalf("CompareSurd(%v, %v) = %d, %d, want %d, %d", s, f, got, code, want, wantCode)
			}
		}
	}
	if counts[0] < 500 || counts[1] < 5000 || counts[-1] < 5000 {
		t.Errorf("the numbers of comparisons by their results are %v", counts)
	}
}

func TestCompareSurdKnown(t *testing.T) {
	cases := []struct {
		s          impl.Surd
		f          impl.Fraction
		want, code int64
	}{
		{surd(1, 5, 2), frac(8, 5), 1, impl.OK}, {surd(1, 5, 2), frac(5, 3), -1, impl.OK}, {surd(1, 5, 2), frac(832040, 514229), 1, impl.OK}, {surd(1, 5, 2), frac(514229, 317811), -1, impl.OK},
		{surd(0, 2, 1), frac(665857, 470832), -1, impl.OK}, {surd(0, 2, 1), frac(275807, 195025), 1, impl.OK}, {surd(0, 2, -1), frac(-665857, 470832), 1, impl.OK}, {surd(0, 2, -1), frac(-275807, 195025), -1, impl.OK},
		{surd(0, 2, 1), frac(0, 1), 1, impl.OK}, {surd(0, 2, -1), frac(0, 1), -1, impl.OK}, {surd(-1e6, 999999, -1), frac(999000, 1), 1, impl.OK}, {surd(-1e6, 999999, -1), frac(999001, 1), -1, impl.OK},
		{surd(1e6, 999999, 1), frac(1e6, 1), 1, impl.OK}, {surd(1e6, 999999, -1), frac(-1e6, 1), -1, impl.OK}, {surd(0, 999999, 1), frac(1e6, 1001), 1, impl.OK}, {surd(0, 999999, 1), frac(999999, 1000), 1, impl.OK}, {surd(0, 999999, 1), frac(1000, 1), -1, impl.OK},
		{surd(1001, 2001, -1e6), frac(1e6, 1), -1, impl.OK}, {surd(1001, 2001, -1e6), frac(-1e6, 1), 1, impl.OK}, {surd(1001, 2001, -1e6), frac(-1, 1e6), -1, impl.OK}, {surd(1001, 2001, 1e6), frac(1045, 999998), 1, impl.OK}, {surd(1001, 2001, 1e6), frac(1046, 999999), -1, impl.OK},
		{surd(1, 5, 2), frac(1e6+1, 1), 0, impl.ErrRange}, {surd(1, 5, 2), frac(-1e6-1, 1), 0, impl.ErrRange}, {surd(1, 5, 2), frac(1, 1e6+1), 0, impl.ErrRange}, {surd(1, 5, 2), frac(1e9, 1e9-1), 0, impl.ErrRange},
		{surd(1, 5, 2), frac(0, 2), 0, impl.ErrInvalid}, {surd(1, 5, 2), frac(1, 0), 0, impl.ErrInvalid}, {surd(1, 5, 2), frac(1, -1), 0, impl.ErrInvalid}, {surd(1, 5, 2), frac(2e6, 2), 0, impl.ErrInvalid},
		{surd(1, 5, 2), frac(1e9+1, 1), 0, impl.ErrInvalid}, {surd(1, 5, 3), frac(1e9, 1), 0, impl.ErrInvalid}, {surd(1, 5, 3), frac(1, 1), 0, impl.ErrInvalid}, {surd(1, 5, 3), frac(1, 0), 0, impl.ErrInvalid},
	}
	for _, c := range cases {
		if got, code := impl.CompareSurd(c.s, c.f); got != c.want || code != c.code {
			t.Errorf("CompareSurd(%v, %v) = %d, %d, want %d, %d", c.s, c.f, got, code, c.want, c.code)
		}
	}
	for _, f := range wideFractions() {
		if got, code := impl.CompareSurd(surd(1, 5, 2), f); !plainByRule(f) && (got != 0 || code != impl.ErrInvalid) {
			t.Fatalf("CompareSurd((1+r5)/2, %v) = %d, %d", f, got, code)
		}
	}
}

// TestConjugateOf looks at the sum and the product of both roots of an equation: 2 * P / Q and (P * P - D) / (Q * Q).
func TestConjugateOf(t *testing.T) {
	for _, s := range allSurds() {
		other := surdOutcomeOf(impl.ConjugateOf(s))
		if other != (surdOutcome{s: surd(-s.P, s.D, -s.Q)}) || !surdByRule(other.s) {
			t.Fatalf("ConjugateOf(%v) = %v", s, other)
		}
		if back := surdOutcomeOf(impl.ConjugateOf(other.s)); back != (surdOutcome{s: s}) {
			t.Fatalf("the conjugate of the conjugate %v of %v is %v", other, s, back)
		}
	}
	for s, want := range map[impl.Surd]impl.Surd{surd(1, 5, 2): surd(-1, 5, -2), surd(-1, 5, -2): surd(1, 5, 2), surd(0, 2, 1): surd(0, 2, -1), surd(-1e6, 2, 1): surd(1e6, 2, -1)} {
		if got := surdOutcomeOf(impl.ConjugateOf(s)); got != (surdOutcome{s: want}) {
			t.Errorf("ConjugateOf(%v) = %v, want %v", s, got, want)
		}
	}
}

// nextByRule is the next surd by its numbers P2 and Q2, and ErrFull if it is not plain.
func nextByRule(s impl.Surd, floor int64) surdOutcome {
	p := sum(product(floor, s.Q), product(-1, s.P))
	q, rest := new(big.Int).QuoRem(sum(big.NewInt(s.D), new(big.Int).Neg(new(big.Int).Mul(p, p))), big.NewInt(s.Q), new(big.Int))
	next := surd(p.Int64(), s.D, q.Int64())
	if !p.IsInt64() || !q.IsInt64() || rest.Sign() != 0 || !surdByRule(next) {
		return surdOutcome{code: impl.ErrFull}
	}
	return surdOutcome{s: next}
}

// TestNextSurd multiplies each next surd by what is left of the surd: (P + r - a * Q) * (P2 + r) is Q * Q2, in which
// there is no r.
func TestNextSurd(t *testing.T) {
	for _, s := range allSurds() {
		floor, next, code := impl.NextSurd(s)
		if want := nextByRule(s, floor); (surdOutcome{next, code}) != want {
			t.Fatalf("NextSurd(%v) = %d, %v, %d, want %v", s, floor, next, code, want)
		}
		if code != impl.OK {
			if floor != 0 {
				t.Fatalf("NextSurd(%v) = %d, %v, %d", s, floor, next, code)
			}
			continue
		}
		left := s.P - floor*s.Q
		if !between(floor, s, floor+1) || left+next.P != 0 || next.D != s.D || sum(product(left, next.P), big.NewInt(s.D)).Cmp(product(s.Q, next.Q)) != 0 {
			t.Fatalf("NextSurd(%v) = %d, %v", s, floor, next)
		}
		if alone, _ := impl.FloorSurd(s); alone != floor || sideByRule(next, big.NewRat(1, 1)) < 0 {
			t.Fatalf("NextSurd(%v) = %d, %v, but the floor is %d", s, floor, next, alone)
		}
	}
}

func TestNextSurdKnown(t *testing.T) {
	cases := []struct {
		s     impl.Surd
		floor int64
		next  impl.Surd
	}{
		{surd(1, 5, 2), 1, surd(1, 5, 2)}, {surd(-1, 5, -2), -1, surd(3, 5, 2)}, {surd(3, 5, 2), 2, surd(1, 5, 2)}, {surd(1, 5, -2), -2, surd(3, 5, 2)}, {surd(0, 7, 1), 2, surd(2, 7, 3)}, {surd(2, 7, 3), 1, surd(1, 7, 2)},
		{surd(0, 2, -1), -2, surd(2, 2, 2)}, {surd(-1, 5, 2), 0, surd(1, 5, 2)}, {surd(1e6, 2, -1), -1000002, surd(2, 2, 2)}, {surd(-1e6, 2, 1), -999999, surd(1, 2, 1)}, {surd(0, 999999, 999999), 0, surd(0, 999999, 1)},
		{surd(0, 999999, -999999), -1, surd(999999, 999999, 999998)}, {surd(-1, 999998, -999997), -1, surd(999998, 999998, 999998)}, {surd(1001, 2001, -1e6), -1, surd(998999, 2001, 997999)}, {surd(-1001, 2001, 1e6), -1, surd(-998999, 2001, -997999)},
	}
	for _, c := range cases {
		if floor, next, code := impl.NextSurd(c.s); floor != c.floor || next != c.next || code != impl.OK {
			t.Errorf("NextSurd(%v) = %d, %v, %d, want %d, %v", c.s, floor, next, code, c.floor, c.next)
		}
	}
}

// TestIsReduced looks at each surd and its conjugate for itself. Numbers that are not plain are never reduced, even if
// their value would be.
func TestIsReduced(t *testing.T) {
	reduced := 0
	list := allSurds()
	for d := int64(2); d <= 60; d++ {
		for p := int64(-1); p <= 9; p++ {
			for q := int64(-2); q <= 16; q++ {
				if s := surd(p, d, q); surdByRule(s) {
					list = append(list, s)
				}
			}
		}
	}
	for _, s := range list {
		want := sideByRule(s, big.NewRat(1, 1)) > 0 && between(-1, surd(-s.P, s.D, -s.Q), 0)
		if want {
			reduced++
		}
		if got := impl.IsReduced(s); got != want {
			t.Fatalf("IsReduced(%v) = %v", s, got)
		}
	}
	if reduced < 200 {
		t.Errorf("only %d reduced surds were looked at", reduced)
	}
	for s, want := range map[impl.Surd]bool{
		surd(1, 5, 2): true, surd(-1, 5, -2): false, surd(-1, 5, 2): false, surd(3, 5, 2): false, surd(0, 2, 1): false, surd(1, 2, 1): true, surd(2, 2, 1): false, surd(999, 999999, 1): true, surd(999, 999999, 2): true, surd(999, 999999, -1): false,
		surd(1000, 999999, 1): false, surd(1, 5, 3): false, surd(1, 4, 1): false, surd(1, 4, 3): false, surd(1000, 1000001, 1): false, surd(1, 5, 0): false, surd(1, 3, 2): true, surd(1, 3, 1): true, surd(2, 7, 3): true, {}: false,
	} {
		if got := impl.IsReduced(s); got != want {
			t.Errorf("IsReduced(%v) = %v", s, got)
		}
	}
	for _, s := range noSurds() {
		if impl.IsReduced(s) {
			t.Errorf("IsReduced(%v) is true", s)
		}
	}
}

// exactTerms are the first terms of a surd by numbers (a + b * r) / c without limits, where c is positive.
func exactTerms(s impl.Surd, count int) []int64 {
	a, b, c, d := big.NewInt(s.P), big.NewInt(1), big.NewInt(s.Q), big.NewInt(s.D)
	var terms []int64
	for len(terms) < count {
		if c.Sign() < 0 {
			a, b, c = a.Neg(a), b.Neg(b), c.Neg(c)
		}
		square := new(big.Int).Mul(d, new(big.Int).Mul(b, b))
		floor := new(big.Int).Sqrt(square)
		if b.Sign() < 0 {
			floor.Neg(floor).Sub(floor, big.NewInt(1))
		}
		floor.Div(floor.Add(floor, a), c)
		terms = append(terms, floor.Int64())
		a.Sub(a, floor.Mul(floor, c))
		// c / (a + b * r) is c * (a - b * r) / (a * a - b * b * d).
		under := new(big.Int).Sub(new(big.Int).Mul(a, a), square)
		a, b, c = a.Mul(a, c), b.Neg(b.Mul(b, c)), under
		g := new(big.Int).GCD(nil, nil, new(big.Int).Abs(a), new(big.Int).Abs(b))
		g.GCD(nil, nil, g, new(big.Int).Abs(c))
		a, b, c = a.Quo(a, g), b.Quo(b, g), c.Quo(c, g)
	}
	return terms
}

func TestTermsOfSurd(t *testing.T) {
	for i, s := range allSurds() {
		want := exactTerms(s, 200)
		for _, count := range []int{0, 1, 2, 3 + i%190, 199, 200} {
			if got, code := impl.TermsOfSurd(s, int64(count)); !slices.Equal(got, want[:count]) || code != impl.OK {
				t.Fatalf("TermsOfSurd(%v, %d) = %v, %d, want %v", s, count, got, code, want[:count])
			}
		}
	}
}

func TestTermsOfSurdKnown(t *testing.T) {
	cases := []struct {
		s    impl.Surd
		want []int64
	}{
		{surd(0, 7, 1), []int64{2, 1, 1, 1, 4, 1}}, {surd(1, 5, 2), repeated(200, 1)}, {surd(0, 2, 1), repeated(200, 1, 2)}, {surd(-1, 5, -2), repeated(200, -1, 2, 1)}, {surd(1, 5, -2), repeated(200, -2, 2, 1)},
		{surd(0, 2, -1), repeated(200, -2, 1, 1, 2)}, {surd(0, 999999, 1), []int64{999, 1, 1998, 1, 1998, 1}}, {surd(0, 999999, -1), []int64{-1000, 1999, 1, 1998, 1}}, {surd(0, 2, 2), repeated(200, 0, 1, 2)},
		{surd(1e6, 2, 1), repeated(200, 1000001, 2)}, {surd(0, 3, 1), []int64{1, 1, 2, 1, 2, 1, 2}}, {surd(-1e6, 3, 1), []int64{-999999, 1, 2, 1, 2}}, {surd(1, 5, 2), nil}, {surd(0, 13, 1), []int64{3, 1, 1, 1, 1, 6, 1, 1, 1, 1, 6}},
	}
	for _, c := range cases {
		if got, code := impl.TermsOfSurd(c.s, int64(len(c.want))); !slices.Equal(got, c.want) || code != impl.OK {
			t.Errorf("TermsOfSurd(%v, %d) = %v, %d, want %v", c.s, len(c.want), got, code, c.want)
		}
	}
	for _, count := range append(slices.Clone(wide), -1, 201, 202, 256, 257, 1<<32+1, 1<<32+200) {
		if count >= 0 && count <= 200 {
			continue
		}
		if got, code := impl.TermsOfSurd(surd(1, 5, 2), count); len(got) != 0 || code != impl.ErrRange {
			t.Errorf("TermsOfSurd((1+r5)/2, %d) = %v, %d", count, got, code)
		}
		if got, code := impl.TermsOfSurd(surd(1, 5, 3), count); len(got) != 0 || code != impl.ErrInvalid {
			t.Errorf("TermsOfSurd((1+r5)/3, %d) = %v, %d", count, got, code)
		}
	}
}

func TestEquationOfKnown(t *testing.T) {
	for s, want := range map[impl.Surd][3]int64{
		surd(1, 5, 2): {1, -1, -1}, surd(-1, 5, -2): {1, -1, -1}, surd(-1, 5, 2): {1, 1, -1}, surd(1, 5, -2): {1, 1, -1}, surd(0, 2, 1): {1, 0, -2}, surd(0, 2, -1): {1, 0, -2}, surd(0, 2, 2): {2, 0, -1}, surd(5, 75, 25): {25, -10, -2},
		surd(0, 12, 2): {1, 0, -3}, surd(0, 12, 6): {3, 0, -1}, surd(1e6, 2, 1): {1, -2e6, 1e12 - 2}, surd(-1e6, 2, -1): {1, -2e6, 1e12 - 2}, surd(-1e6, 999999, 1): {1, 2e6, 1e12 - 999999}, surd(1001, 2001, -1e6): {1e6, 2002, 1},
		surd(0, 999999, 999999): {999999, 0, -1}, surd(2, 8, 2): {1, -2, -1}, surd(3, 18, 9): {9, -6, -1}, surd(3, 21, 6): {3, -3, -1}, surd(4, 28, -6): {3, 4, -1}, surd(-2, 12, 4): {2, 2, -1},
	} {
		a, b, c, code := impl.EquationOf(s)
		if got := [3]int64{a, b, c}; got != want || code != impl.OK {
			t.Errorf("EquationOf(%v) = %v, %d, want %v", s, got, code, want)
		}
	}
}

// surdForm is the shape of a text of a surd; whether it is plain is another question.
var surdForm = regexp.MustCompile(`^\((0|-?[1-9][0-9]*)\+r(0|-?[1-9][0-9]*)\)/(0|-?[1-9][0-9]*)$`)

// readSurdByRule reads the surd out of a text that has the form of one.
func readSurdByRule(s string) (impl.Surd, bool) {
	parts := surdForm.FindStringSubmatch(s)
	if parts == nil {
		return impl.Surd{}, false
	}
	var numbers [3]int64
	for i, part := range parts[1:] {
		n, err := strconv.ParseInt(part, 10, 64)
		if err != nil {
			return impl.Surd{}, false
		}
		numbers[i] = n
	}
	x := surd(numbers[0], numbers[1], numbers[2])
	if !surdByRule(x) {
		return impl.Surd{}, false
	}
	return x, true
}

func TestSurdText(t *testing.T) {
	for s, want := range map[impl.Surd]string{
		surd(1, 5, 2): "(1+r5)/2", surd(-1, 5, -2): "(-1+r5)/-2", surd(0, 2, 1): "(0+r2)/1", surd(0, 2, -1): "(0+r2)/-1", surd(1e6, 999999, 1): "(1000000+r999999)/1", surd(-1e6, 2, -1): "(-1000000+r2)/-1",
		surd(1001, 2001, -1e6): "(1001+r2001)/-1000000", surd(1, 5, 3): "", surd(0, 4, 1): "", surd(0, 2, 0): "", {}: "",
	} {
		if got := impl.SurdText(s); got != want {
			t.Errorf("SurdText(%v) = %q, want %q", s, got, want)
		}
	}
	for _, s := range allSurds() {
		text := impl.SurdText(s)
		if want := fmt.Sprintf("(%d+r%d)/%d", s.P, s.D, s.Q); text != want {
			t.Fatalf("SurdText(%v) = %q, want %q", s, text, want)
		}
		if back, ok := impl.ReadSurd(text); back != s || !ok {
			t.Fatalf("ReadSurd(%q) = %v, %v", text, back, ok)
		}
	}
	for _, s := range noSurds() {
		if got := impl.SurdText(s); got != "" {
			t.Errorf("SurdText(%v) = %q", s, got)
		}
		if back, ok := impl.ReadSurd(fmt.Sprintf("(%d+r%d)/%d", s.P, s.D, s.Q)); back != (impl.Surd{}) || ok {
			t.Errorf("the text of %v, which is not plain, is read as %v, %v", s, back, ok)
		}
	}
}

func TestReadSurdOfNearTexts(t *testing.T) {
	for _, s := range []string{"(1+r5)/2", "(-1+r5)/-2", "(0+r2)/1", "(0+r12)/6", "(10+r19)/-81", "(1000000+r999999)/1", "(1001+r2001)/-1000000", "(1+r4)/3", "(+r)/"} {
		for _, near := range nearTexts(s) {
			want, fine := readSurdByRule(near)
			if got, ok := impl.ReadSurd(near); got != want || ok != fine {
				t.Fatalf("ReadSurd(%q) = %v, %v, want %v, %v", near, got, ok, want, fine)
			}
		}
	}
}

func TestReadSurdRefuses(t *testing.T) {
	bad := []string{
		"", "(", ")", "()", "()/", "(+r)/", "(1+r5)", "(1+r5)/", "(1+r)/2", "(+r5)/2", "(r5)/2", "r5", "1+r5", "1+r5/2", "1+r5)/2", "(1+r5/2", "(1+5)/2", "(1r5)/2", "(1-r5)/2", "(1+R5)/2", "(1+ r5)/2", "(1 +r5)/2",
		"( 1+r5)/2", "(1+r5 )/2", "(1+r5) /2", "(1+r5)/ 2", " (1+r5)/2", "(1+r5)/2 ", "(1+r5)/2\n", "(1+r5)//2", "((1+r5)/2", "((1+r5))/2", "(1+r5)/2)", "(1+r5)/2/1", "(1+r5)/2+r5", "(1+r5+r5)/2", "(1+r5)/2(1+r5)/2",
		"(+1+r5)/2", "(1+r+5)/2", "(1+r5)/+2", "(01+r5)/2", "(1+r05)/2", "(1+r5)/02", "(-01+r5)/2", "(1+r5)/-02", "(-0+r2)/1", "(00+r2)/1", "(0+r2)/-0", "(0+r2)/0", "(0+r-2)/1", "(1+r-3)/2", "(--1+r5)/2", "(1+r5)/--2",
		"(1+r5)/3", "(1+r4)/3", "(0+r1000000)/1", "(0+r1000001)/1", "(1000001+r2)/1", "(-1000001+r2)/1", "(1+r1000002)/1000001", "(18446744073709551617+r5)/2", "(1+r18446744073709551621)/2", "(1+r5)/18446744073709551618",
		"(1000000000000000000+r2)/1", "(-9223372036854775808+r2)/1", "(0+r2)/-9223372036854775808", "(1.0+r5)/2", "(a+rb)/c", "(１+r5)/2", "(1+√5)/2", "\xff", "(1+r5)/2\x00", "[1+r5]/2", "(1,r5)/2", "(1+r5)\\2",
		strings.Repeat("(", 1<<16), "(" + strings.Repeat("1", 1<<16) + "+r5)/2", "(" + strings.Repeat("+r", 1<<14) + ")/", "(1+r5" + strings.Repeat(")/2", 1<<14), strings.Repeat("(1+r5)/2", 1<<12),
	}
	for _, s := range bad {
		if got, ok := impl.ReadSurd(s); got != (impl.Surd{}) || ok {
			t.Errorf("ReadSurd(%.60q) = %v, %v", s, got, ok)
		}
	}
}

// surdErrors calls each function of a surd that is not plain, also with another argument that has an error of its own.
func surdErrors(t *testing.T, s impl.Surd) {
	t.Helper()
	results := map[string]string{
		"FloorSurd":   fmt.Sprint(impl.FloorSurd(s)),
		"ConjugateOf": fmt.Sprint(impl.ConjugateOf(s)),
		"NextSurd":    fmt.Sprint(impl.NextSurd(s)),
		"EquationOf":  fmt.Sprint(impl.EquationOf(s)),
	}
	for _, f := range []impl.Fraction{frac(0, 1), frac(3, 2), frac(1e6+1, 1), frac(1, 1e9), frac(2, 4), frac(1, 0)} {
		results["CompareSurd "+fmt.Sprint(f)] = fmt.Sprint(impl.CompareSurd(s, f))
	}
	for _, count := range []int64{0, 1, 5, 200, 201, -1, math.MinInt64, math.MaxInt64} {
		results["TermsOfSurd "+fmt.Sprint(count)] = fmt.Sprint(impl.TermsOfSurd(s, count))
	}
	for name, got := range results {
		want := "0 1"
		switch strings.Fields(name)[0] {
		case "ConjugateOf":
			want = "{0 0 0} 1"
		case "NextSurd":
			want = "0 {0 0 0} 1"
		case "EquationOf":
			want = "0 0 0 1"
		case "TermsOfSurd":
			want = "[] 1"
		}
		if got != want {
			t.Fatalf("%s of %v returns %s, want %s", name, s, got, want)
		}
	}
}

func TestSurdErrors(t *testing.T) {
	for _, s := range noSurds() {
		surdErrors(t, s)
	}
}
