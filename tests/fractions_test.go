package tests

import (
	"math/big"
	"strings"
	"testing"

	"loop.example/g01007/impl"
)

func frac(num, den int64) impl.Fraction {
	return impl.Fraction{Num: num, Den: den}
}

// plainByRule tells what the document calls plain, with a divisor that math/big finds.
func plainByRule(f impl.Fraction) bool {
	if f.Den < 1 || f.Den > 1e9 || f.Num < -1e9 || f.Num > 1e9 {
		return false
	}
	g := new(big.Int).GCD(nil, nil, new(big.Int).Abs(big.NewInt(f.Num)), big.NewInt(f.Den))
	return g.IsInt64() && g.Int64() == 1
}

// ratOf is the number of a fraction whose Den is not 0.
func ratOf(f impl.Fraction) *big.Rat {
	return big.NewRat(f.Num, f.Den)
}

// outcome is what a function returns that has a fraction as its result.
type outcome struct {
	f    impl.Fraction
	code int64
}

func outcomeOf(f impl.Fraction, code int64) outcome {
	return outcome{f, code}
}

// plainOrFull is the outcome for an exact result.
func plainOrFull(r *big.Rat) outcome {
	limit := big.NewInt(1e9)
	if r.Num().CmpAbs(limit) > 0 || r.Denom().Cmp(limit) > 0 {
		return outcome{code: impl.ErrFull}
	}
	return outcome{f: frac(r.Num().Int64(), r.Denom().Int64())}
}

// wideFractions are all pairs of the numbers wide, most of which are not plain, and small fractions.
func wideFractions() []impl.Fraction {
	var list []impl.Fraction
	for _, num := range wide {
		for _, den := range wide {
			list = append(list, frac(num, den))
		}
	}
	return append(list, plainFractions()...)
}

// plainFractions are small plain fractions, and ones whose numbers reach the limits.
func plainFractions() []impl.Fraction {
	var list []impl.Fraction
	for num := int64(-7); num <= 7; num++ {
		for den := int64(1); den <= 7; den++ {
			if f := frac(num, den); plainByRule(f) {
				list = append(list, f)
			}
		}
	}
	for _, sign := range []int64{-1, 1} {
		for _, big := range []int64{impl.MaxNum, impl.MaxNum - 1, impl.MaxNum / 2, 46341, 31623, 30000} {
			list = append(list, frac(sign*big, 1), frac(sign, big),
				frac(sign*big, big-1), frac(sign*(big-1), big))
		}
	}
	return list
}

func TestValidFraction(t *testing.T) {
	for _, f := range wideFractions() {
		if got := impl.ValidFraction(f); got != plainByRule(f) {
			t.Errorf("ValidFraction(%v) = %v", f, got)
		}
	}
	bad := []impl.Fraction{
		{}, frac(1, 0), frac(0, 2), frac(0, 1e9), frac(2, 4), frac(-3, 3), frac(999999998, 1e9), frac(1e9, 1e9),
		frac(1, -1), frac(-1, -1), frac(0, -1), frac(1e9+1, 1), frac(-1e9-1, 1), frac(1, 1e9+1),
	}
	for _, f := range bad {
		if impl.ValidFraction(f) {
			t.Errorf("ValidFraction(%v) is true", f)
		}
	}
	good := []impl.Fraction{
		frac(0, 1), frac(1, 1), frac(-1, 1), frac(1e9, 1), frac(-1e9, 1), frac(1, 1e9), frac(-999999999, 1e9), frac(-3, 2),
	}
	for _, f := range good {
		if !impl.ValidFraction(f) {
			t.Errorf("ValidFraction(%v) is false", f)
		}
	}
}

func TestMakeFraction(t *testing.T) {
	numbers := append([]int64{-30, -6, 6, 15, 1e9 * 3, -1e9 * 7, 1e18 - 1e9, 5e17, -25e16}, wide...)
	for _, num := range numbers {
		for _, den := range numbers {
			want := outcome{code: impl.ErrRange}
			if den != 0 && num >= -1e18 && num <= 1e18 && den >= -1e18 && den <= 1e18 {
				want = plainOrFull(big.NewRat(num, den))
			}
			if got := outcomeOf(impl.MakeFraction(num, den)); got != want {
				t.Errorf("MakeFraction(%d, %d) = %v, want %v", num, den, got, want)
			}
		}
	}
}

func TestMakeFractionAtLimits(t *testing.T) {
	cases := []struct {
		num, den int64
		want     outcome
	}{
		{6, -4, outcome{f: frac(-3, 2)}},
		{-6, -4, outcome{f: frac(3, 2)}},
		{0, -5, outcome{f: frac(0, 1)}},
		{1e18, 1e18, outcome{f: frac(1, 1)}},
		{-1e18, 1e18, outcome{f: frac(-1, 1)}},
		{1e18, -1e9, outcome{f: frac(-1e9, 1)}},
		{1e9, -1e18, outcome{f: frac(-1, 1e9)}},
		{0, 1e18, outcome{f: frac(0, 1)}},
		{1e18, 1, outcome{code: impl.ErrFull}},
		{1, 1e18, outcome{code: impl.ErrFull}},
		{1e9 + 1, -1, outcome{code: impl.ErrFull}},
		{1, -1e9 - 1, outcome{code: impl.ErrFull}},
		{1e18 + 1, 1e18, outcome{code: impl.ErrRange}},
		{-1e18 - 1, 1, outcome{code: impl.ErrRange}},
		{1, 1e18 + 1, outcome{code: impl.ErrRange}},
		{1, -1e18 - 1, outcome{code: impl.ErrRange}},
		{0, 0, outcome{code: impl.ErrRange}},
		{1e18, 0, outcome{code: impl.ErrRange}},
	}
	for _, c := range cases {
		if got := outcomeOf(impl.MakeFraction(c.num, c.den)); got != c.want {
			t.Errorf("MakeFraction(%d, %d) = %v, want %v", c.num, c.den, got, c.want)
		}
	}
}

// operation is a function of two fractions with a fraction as its result, and how to find it exactly.
type operation struct {
	name  string
	run   func(a, b impl.Fraction) (impl.Fraction, int64)
	exact func(a, b impl.Fraction) outcome
}

func operations() []operation {
	return []operation{
		{"AddFractions", impl.AddFractions, func(a, b impl.Fraction) outcome {
			return plainOrFull(new(big.Rat).Add(ratOf(a), ratOf(b)))
		}},
		{"SubFractions", impl.SubFractions, func(a, b impl.Fraction) outcome {
			return plainOrFull(new(big.Rat).Sub(ratOf(a), ratOf(b)))
		}},
		{"MulFractions", impl.MulFractions, func(a, b impl.Fraction) outcome {
			return plainOrFull(new(big.Rat).Mul(ratOf(a), ratOf(b)))
		}},
		{"DivFractions", impl.DivFractions, func(a, b impl.Fraction) outcome {
			if b.Num == 0 {
				return outcome{code: impl.ErrState}
			}
			return plainOrFull(new(big.Rat).Quo(ratOf(a), ratOf(b)))
		}},
		{"MediantOf", impl.MediantOf, func(a, b impl.Fraction) outcome {
			return plainOrFull(big.NewRat(a.Num+b.Num, a.Den+b.Den))
		}},
	}
}

// pairsDo calls a function with pairs of fractions: all plain ones, and plain ones with any others.
func pairsDo(do func(a, b impl.Fraction)) {
	some := []impl.Fraction{frac(0, 1), frac(1, 2), frac(-5, 3), frac(impl.MaxNum, 1), frac(0, 2), frac(2, -4)}
	for _, a := range wideFractions() {
		for _, b := range some {
			do(a, b)
			do(b, a)
		}
	}
	for _, a := range plainFractions() {
		for _, b := range plainFractions() {
			do(a, b)
		}
	}
}

func TestOperationsAreExact(t *testing.T) {
	for _, o := range operations() {
		pairsDo(func(a, b impl.Fraction) {
			want := outcome{code: impl.ErrInvalid}
			if plainByRule(a) && plainByRule(b) {
				want = o.exact(a, b)
			}
			if got := outcomeOf(o.run(a, b)); got != want {
				t.Fatalf("%s(%v, %v) = %v, want %v", o.name, a, b, got, want)
			}
		})
	}
}

func TestCompareFractions(t *testing.T) {
	pairsDo(func(a, b impl.Fraction) {
		wantN, wantCode := int64(0), int64(impl.ErrInvalid)
		if plainByRule(a) && plainByRule(b) {
			wantN, wantCode = int64(ratOf(a).Cmp(ratOf(b))), impl.OK
		}
		if n, code := impl.CompareFractions(a, b); n != wantN || code != wantCode {
			t.Fatalf("CompareFractions(%v, %v) = %d, %d, want %d, %d", a, b, n, code, wantN, wantCode)
		}
	})
}

func TestAreNeighbours(t *testing.T) {
	count := 0
	pairsDo(func(a, b impl.Fraction) {
		want := false
		if plainByRule(a) && plainByRule(b) {
			// The difference of neighbours is 1 over the product of their denominators.
			d := new(big.Rat).Sub(ratOf(a), ratOf(b))
			product := new(big.Int).Mul(big.NewInt(a.Den), big.NewInt(b.Den))
			want = d.Num().CmpAbs(big.NewInt(1)) == 0 && d.Denom().Cmp(product) == 0
		}
		if want {
			count++
		}
		if got := impl.AreNeighbours(a, b); got != want {
			t.Fatalf("AreNeighbours(%v, %v) = %v", a, b, got)
		}
	})
	if count < 100 {
		t.Errorf("only %d neighbours were looked at", count)
	}
	// The crosswise difference of each of these is 1 or -1, but a fraction is not plain.
	for _, p := range [][2]impl.Fraction{
		{frac(1, 0), frac(0, 1)}, {frac(-1, 0), frac(0, 1)}, {frac(1, -1), frac(-2, 1)}, {frac(0, -1), frac(1, 1)},
		{frac(1, 1e9+1), frac(0, 1)}, {frac(1e9+1, 1), frac(1e9, 1)},
	} {
		if impl.AreNeighbours(p[0], p[1]) || impl.AreNeighbours(p[1], p[0]) {
			t.Errorf("AreNeighbours(%v, %v) is true", p[0], p[1])
		}
	}
}

func TestFloorOf(t *testing.T) {
	for _, f := range wideFractions() {
		wantN, wantCode := int64(0), int64(impl.ErrInvalid)
		if plainByRule(f) {
			// Div is Euclidean: for a positive divisor it rounds down.
			wantN, wantCode = new(big.Int).Div(big.NewInt(f.Num), big.NewInt(f.Den)).Int64(), impl.OK
		}
		if n, code := impl.FloorOf(f); n != wantN || code != wantCode {
			t.Errorf("FloorOf(%v) = %d, %d, want %d, %d", f, n, code, wantN, wantCode)
		}
	}
	for f, want := range map[impl.Fraction]int64{
		frac(-3, 2): -2, frac(3, 2): 1, frac(-2, 1): -2, frac(0, 1): 0, frac(-1, 1e9): -1, frac(1, 1e9): 0,
		frac(-1e9, 1): -1e9, frac(-1e9, 3): -333333334,
	} {
		if n, code := impl.FloorOf(f); n != want || code != impl.OK {
			t.Errorf("FloorOf(%v) = %d, %d", f, n, code)
		}
	}
}

func TestFractionText(t *testing.T) {
	for f, want := range map[impl.Fraction]string{
		frac(2, 3): "2/3", frac(-5, 3): "-5/3", frac(0, 1): "0", frac(7, 1): "7", frac(-7, 1): "-7",
		frac(-1e9, 1): "-1000000000", frac(-999999999, 1e9): "-999999999/1000000000",
		frac(0, 0): "", frac(2, 4): "", frac(1, 0): "", frac(1, -2): "", frac(0, 2): "", frac(1e9+1, 1): "", frac(1, 1e9+1): "",
	} {
		if got := impl.FractionText(f); got != want {
			t.Errorf("FractionText(%v) = %q, want %q", f, got, want)
		}
	}
}

func TestFractionTextIsReadBack(t *testing.T) {
	for _, f := range wideFractions() {
		text := impl.FractionText(f)
		if (text != "") != plainByRule(f) {
			t.Fatalf("FractionText(%v) = %q", f, text)
		}
		if text == "" {
			continue
		}
		if back, ok := impl.ReadFraction(text); back != f || !ok {
			t.Fatalf("ReadFraction(%q) = %v, %v", text, back, ok)
		}
	}
}

func TestReadFractionRefuses(t *testing.T) {
	bad := []string{
		"", "/", "1/", "/2", "-", "-/2", "4/2", "2/4", "3/1", "-3/1", "0/1", "0/2", "0/0", "1/0", "-0", "-0/1", "1/-2",
		"-1/-2", "+1/2", "1/+2", "01/2", "1/02", "1//2", "1/2/3", "1/2/", " 1/2", "1/2 ", "1 / 2", "1/2\n", "1.5", "1\\2",
		"1:2", "x", "1/x", "x/2", "１/２", "1⁄2", "\xff", "1000000001", "-1000000001", "1/1000000001", "1000000001/2",
		"1000000000000000000/3", "18446744073709551617/2", "1/18446744073709551618", "-9223372036854775808",
		"1/-9223372036854775808", strings.Repeat("/", 1<<16), strings.Repeat("1", 1<<16) + "/2",
	}
	for _, s := range bad {
		if f, ok := impl.ReadFraction(s); f != (impl.Fraction{}) || ok {
			t.Errorf("ReadFraction(%q) = %v, %v", s, f, ok)
		}
	}
}
