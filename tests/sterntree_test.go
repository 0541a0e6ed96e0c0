package tests

import (
	"math"
	"math/big"
	"regexp"
	"slices"
	"strconv"
	"strings"
	"testing"

	"loop.example/g01007/impl"
)

// pathByRule tells what the document calls a path.
func pathByRule(runs []int64) bool {
	for i, n := range runs {
		if n < 1 || n > 1e9 {
			if n != 0 || i > 0 || len(runs) == 1 {
				return false
			}
		}
	}
	return len(runs) <= 60
}

// smallPaths are all paths up to a length of which each run has at most 3 steps.
func smallPaths(length int) [][]int64 {
	list := [][]int64{{}, {1}, {2}, {3}}
	for _, first := range []int64{0, 1, 2, 3} {
		for _, second := range []int64{1, 2, 3} {
			list = append(list, []int64{first, second})
		}
	}
	for i := 4; i < len(list); i++ {
		for n := int64(1); n <= 3 && len(list[i]) < length; n++ {
			list = append(list, append(slices.Clone(list[i]), n))
		}
	}
	return list
}

// longPaths are paths at the limits of their length and size, most of which have no plain fraction.
func longPaths() [][]int64 {
	const most = impl.MaxNum
	list := [][]int64{
		{most}, {most - 1}, {most - 2}, {0, most}, {0, most - 1}, {0, most - 2}, {1, most}, {1, most - 1}, {1, most - 2}, {most - 1, 1},
		{most - 2, 1}, {0, 1, most}, {0, 1, most - 1}, {0, 1, most - 2}, {most, most}, {0, most, most}, {499999998, 1}, {499999999, 1},
	}
	for _, n := range []int{2, 3, 41, 42, 43, 44, 45, 58, 59, 60} {
		for _, first := range []int64{0, 1, 2, most} {
			for _, other := range []int64{1, 2, 3, most} {
				list = append(list, repeated(n, first, other), append(repeated(n-1, first, other), most))
			}
		}
	}
	for _, terms := range mixedTerms(300) {
		terms[0] = max(terms[0], -terms[0])
		if pathByRule(terms) {
			list = append(list, terms)
		}
	}
	return list
}

// wrappedPaths are paths to fractions that are far too great, but that look plain in numbers of 64 bits without a
// check on the way. From a small fraction, two runs are taken back in such numbers; what is left has a path of its own.
func wrappedPaths() [][]int64 {
	var list [][]int64
	for _, f := range []impl.Fraction{frac(1, 1), frac(2, 5), frac(45, 16), frac(1e9, 1)} {
		for first := uint64(impl.MaxNum); first > impl.MaxNum-50; first-- {
			num, den := uint64(f.Num), uint64(f.Den)
			num -= first * den
			den -= impl.MaxNum * num
			rest := new(big.Rat).SetFrac(new(big.Int).SetUint64(num), new(big.Int).SetUint64(den))
			runs := append([]int64{int64(first), impl.MaxNum}, shortByRule(rest)...)
			runs[len(runs)-1]--
			if pathByRule(runs) && uncheckedEnd(runs) == f {
				list = append(list, runs)
			}
		}
	}
	return list
}

// uncheckedEnd is the fraction at the end of runs in numbers of 64 bits.
func uncheckedEnd(runs []int64) impl.Fraction {
	p, q, r, s := int64(0), int64(1), int64(1), int64(0)
	for i, n := range runs {
		if i%2 == 0 {
			p, q = p+n*r, q+n*s
		} else {
			r, s = r+n*p, s+n*q
		}
	}
	return frac(p+r, q+s)
}

func allPaths() [][]int64 {
	return slices.Concat(smallPaths(5), longPaths(), wrappedPaths())
}

// noPaths are lists that are not paths: a single 0, too many numbers, and a number out of range at each place.
func noPaths() [][]int64 {
	list := [][]int64{{0}, repeated(61, 1), repeated(61, 0, 1), repeated(61, 0, impl.MaxNum), repeated(1000, 1), {0, 0}, {0, 0, 1}, {0, 1, 0}, {1, 0}, {1, 2, 0, 3}}
	for _, length := range []int{1, 2, 3, 4, 59, 60} {
		for place := range length {
			for _, n := range wide {
				for _, first := range []int64{0, 1} {
					if bad := replaced(repeated(length, first, 1), place, n); !pathByRule(bad) {
						list = append(list, bad)
					}
				}
			}
		}
	}
	return list
}

// positiveFractions are plain fractions of all sizes that are greater than 0.
func positiveFractions() []impl.Fraction {
	list := slices.DeleteFunc(manyFractions(), func(f impl.Fraction) bool { return f.Num < 1 })
	for _, most := range []int64{impl.MaxNum, impl.MaxNum - 1} {
		for _, other := range []int64{3, 7, 31623, 333333333, 499999999, 500000003, 618033989, 666666667, 999999937} {
			if f := frac(most, other); plainByRule(f) {
				list = append(list, f, frac(other, most))
			}
		}
	}
	return list
}

// placeErrors are fractions that have no place in the tree, with the code for each of them.
func placeErrors() map[impl.Fraction]int64 {
	errors := map[impl.Fraction]int64{}
	for _, f := range wideFractions() {
		if !plainByRule(f) {
			errors[f] = impl.ErrInvalid
		} else if f.Num < 1 {
			errors[f] = impl.ErrRange
		}
	}
	return errors
}

// stepped are the bounds behind single steps from the top, each to the right or to the left, as the document tells them.
func stepped(steps string) (bounds [4]int64) {
	p, q, r, t := int64(0), int64(1), int64(1), int64(0)
	for _, step := range steps {
		if step == 'R' {
			p, q = p+r, q+t
		} else {
			r, t = p+r, q+t
		}
	}
	return [4]int64{p, q, r, t}
}

func middle(b [4]int64) impl.Fraction {
	return frac(b[0]+b[2], b[1]+b[3])
}

// stepsOf are the single steps of runs, which have to be few.
func stepsOf(runs []int64) string {
	steps := ""
	for i, n := range runs {
		steps += strings.Repeat([]string{"R", "L"}[i%2], int(n))
	}
	return steps
}

// runsByRule are the runs of single steps.
func runsByRule(steps string) []int64 {
	var runs []int64
	for i := 0; i < len(steps); {
		letter := []string{"R", "L"}[len(runs)%2]
		rest := strings.TrimLeft(steps[i:], letter)
		runs = append(runs, int64(len(steps)-i-len(rest)))
		i = len(steps) - len(rest)
	}
	return runs
}

// smallSteps are all single steps up to a number of them.
func smallSteps(most int) []string {
	list := []string{""}
	for i := 0; i < len(list); i++ {
		if len(list[i]) < most {
			list = append(list, list[i]+"L", list[i]+"R")
		}
	}
	return list
}

// endByRule is the fraction at the end of runs: the bounds move by so many steps at once, in exact numbers.
func endByRule(runs []int64) outcome {
	if !pathByRule(runs) {
		return outcome{code: impl.ErrInvalid}
	}
	low, high := [2]*big.Int{big.NewInt(0), big.NewInt(1)}, [2]*big.Int{big.NewInt(1), big.NewInt(0)}
	for i, n := range runs {
		from, to := &low, high
		if i%2 == 1 {
			from, to = &high, low
		}
		for k := range from {
			from[k] = new(big.Int).Add(from[k], new(big.Int).Mul(big.NewInt(n), to[k]))
		}
	}
	return plainOrFull(new(big.Rat).SetFrac(low[0].Add(low[0], high[0]), low[1].Add(low[1], high[1])))
}

// boundsByRule are the bounds of a fraction: they are the only fractions with num * q - p * den = 1 whose numbers are
// not greater, so q is the reciprocal of num modulo den.
func boundsByRule(f impl.Fraction) [4]int64 {
	if f.Den == 1 {
		return [4]int64{f.Num - 1, 1, 1, 0}
	}
	q := new(big.Int).ModInverse(big.NewInt(f.Num), big.NewInt(f.Den)).Int64()
	p := (f.Num*q - 1) / f.Den
	return [4]int64{p, q, f.Num - p, f.Den - q}
}

// parentByRule is the bound with the greater numbers, as it stands one step before.
func parentByRule(f impl.Fraction) impl.Fraction {
	b := boundsByRule(f)
	if b[0]+b[1] > b[2]+b[3] {
		return frac(b[0], b[1])
	}
	return frac(b[2], b[3])
}

// topmostByRule is the fraction from a to b that stands nearest to the top: an integer if there is one, or the topmost
// one of the reciprocals of what is left over.
func topmostByRule(a, b *big.Rat) *big.Rat {
	whole := floorByRule(a)
	if whole.Cmp(a) == 0 {
		return whole
	}
	if next := new(big.Rat).Add(whole, big.NewRat(1, 1)); next.Cmp(b) <= 0 {
		return next
	}
	low, high := new(big.Rat).Sub(b, whole), new(big.Rat).Sub(a, whole)
	inner := topmostByRule(low.Inv(low), high.Inv(high))
	return whole.Add(whole, inner.Inv(inner))
}

// commonByRule is the common ancestor of two fractions: the topmost one from one to the other.
func commonByRule(a, b impl.Fraction) impl.Fraction {
	x, y := ratOf(a), ratOf(b)
	if x.Cmp(y) > 0 {
		x, y = y, x
	}
	common := topmostByRule(x, y)
	return frac(common.Num().Int64(), common.Denom().Int64())
}

func TestValidPath(t *testing.T) {
	for _, runs := range allPaths() {
		if !impl.ValidPath(runs) {
			t.Errorf("ValidPath(%v) is false", runs)
		}
	}
	for _, runs := range noPaths() {
		if impl.ValidPath(runs) {
			t.Errorf("ValidPath(%v) is true", runs)
		}
	}
	for _, runs := range [][]int64{nil, {}, {1}, {1e9}, {0, 1}, {0, 1e9}, {1, 1}, repeated(60, 0, 1e9), repeated(60, 1e9)} {
		if !impl.ValidPath(runs) {
			t.Errorf("ValidPath(%v) is false", runs)
		}
	}
	for _, runs := range [][]int64{
		{0}, {-1}, {1e9 + 1}, {0, 0}, {1, 0}, {-1, 1}, {0, 1e9 + 1}, {0, -1}, {1, 1, 0}, {0, 1, 0}, {1e9 + 1, 1}, repeated(61, 1), repeated(61, 0, 1),
		{math.MinInt64}, {math.MaxInt64}, {1, math.MinInt64}, {math.MinInt64, 1}, {math.MaxInt64, 1},
	} {
		if impl.ValidPath(runs) {
			t.Errorf("ValidPath(%v) is true", runs)
		}
	}
}

func TestTreeStepByStep(t *testing.T) {
	for _, steps := range smallSteps(9) {
		bounds := stepped(steps)
		f := middle(bounds)
		runs := runsByRule(steps)
		if got, code := impl.PathTo(f); !slices.Equal(got, runs) || code != impl.OK {
			t.Fatalf("PathTo(%v) = %v, %d, want %v", f, got, code, runs)
		}
		if got := outcomeOf(impl.FractionAtPath(runs)); got != (outcome{f: f}) {
			t.Fatalf("FractionAtPath(%v) = %v, want %v", runs, got, f)
		}
		if got, code := impl.LevelOf(f); got != int64(len(steps)) || code != impl.OK {
			t.Fatalf("LevelOf(%v) = %d, %d, want %d", f, got, code, len(steps))
		}
		p, q, r, s, code := impl.BoundsOf(f)
		if (bounds != [4]int64{p, q, r, s}) || code != impl.OK {
			t.Fatalf("BoundsOf(%v) = %d, %d, %d, %d, %d, want %v", f, p, q, r, s, code, bounds)
		}
		left, right, code := impl.ChildrenOf(f)
		if left != middle(stepped(steps+"L")) || right != middle(stepped(steps+"R")) || code != impl.OK {
			t.Fatalf("ChildrenOf(%v) = %v, %v, %d", f, left, right, code)
		}
		want := outcome{code: impl.ErrNotFound}
		if steps != "" {
			want = outcome{f: middle(stepped(steps[:len(steps)-1]))}
		}
		if got := outcomeOf(impl.ParentFraction(f)); got != want {
			t.Fatalf("ParentFraction(%v) = %v, want %v", f, got, want)
		}
	}
}

func TestAncestorsStepByStep(t *testing.T) {
	all := smallSteps(6)
	for _, a := range all {
		for _, b := range all {
			n := 0
			for n < min(len(a), len(b)) && a[n] == b[n] {
				n++
			}
			x, y := middle(stepped(a)), middle(stepped(b))
			if got := outcomeOf(impl.CommonAncestor(x, y)); got != (outcome{f: middle(stepped(a[:n]))}) {
				t.Fatalf("CommonAncestor(%v, %v) = %v, want that behind %q", x, y, got, a[:n])
			}
			if got, code := impl.IsAncestor(x, y); got != (n == len(a) && a != b) || code != impl.OK {
				t.Fatalf("IsAncestor(%v, %v) = %v, %d", x, y, got, code)
			}
		}
	}
}

func TestPathOfLarge(t *testing.T) {
	for _, f := range positiveFractions() {
		want := shortByRule(ratOf(f))
		want[len(want)-1]--
		if f == frac(1, 1) {
			want = nil
		}
		runs, code := impl.PathTo(f)
		if !slices.Equal(runs, want) || code != impl.OK || !impl.ValidPath(runs) {
			t.Fatalf("PathTo(%v) = %v, %d, want %v", f, runs, code, want)
		}
		if back := outcomeOf(impl.FractionAtPath(runs)); back != (outcome{f: f}) || endByRule(runs) != back {
			t.Fatalf("the path %v to %v leads to %v", runs, f, back)
		}
		level := int64(0)
		for _, n := range want {
			level += n
		}
		if got, code := impl.LevelOf(f); got != level || code != impl.OK {
			t.Fatalf("LevelOf(%v) = %d, %d, want %d", f, got, code, level)
		}
	}
}

func TestPathToKnown(t *testing.T) {
	for f, want := range map[impl.Fraction][]int64{
		frac(1, 1): {}, frac(2, 5): {0, 2, 1}, frac(2, 1): {1}, frac(1, 2): {0, 1}, frac(3, 1): {2}, frac(1, 3): {0, 2}, frac(3, 2): {1, 1},
		frac(2, 3): {0, 1, 1}, frac(5, 2): {2, 1}, frac(1e9, 1): {999999999}, frac(1, 1e9): {0, 999999999}, frac(45, 16): {2, 1, 4, 2},
		frac(1e9, 999999999): {1, 999999998}, frac(999999999, 1e9): {0, 1, 999999998}, frac(701408733, 433494437): repeated(42, 1),
		frac(433494437, 701408733): repeated(43, 0, 1), frac(1e9-1, 2): {499999999, 1},
	} {
		if got, code := impl.PathTo(f); !slices.Equal(got, want) || code != impl.OK {
			t.Errorf("PathTo(%v) = %v, %d, want %v", f, got, code, want)
		}
	}
}

func TestFractionAtPath(t *testing.T) {
	count := map[int64]int{}
	for _, runs := range slices.Concat(allPaths(), noPaths()) {
		want := endByRule(runs)
		count[want.code]++
		got := outcomeOf(impl.FractionAtPath(runs))
		if got != want {
			t.Fatalf("FractionAtPath(%v) = %v, want %v", runs, got, want)
		}
		if got.code != impl.OK {
			continue
		}
		if back, code := impl.PathTo(got.f); !slices.Equal(back, runs) || code != impl.OK {
			t.Fatalf("the path %v leads to %v with the path %v, %d", runs, got, back, code)
		}
	}
	for _, code := range []int64{impl.OK, impl.ErrInvalid, impl.ErrFull} {
		if count[code] < 100 {
			t.Errorf("only %d paths with the code %d were looked at", count[code], code)
		}
	}
	for _, runs := range smallPaths(4) {
		if got := outcomeOf(impl.FractionAtPath(runs)); got != (outcome{f: middle(stepped(stepsOf(runs)))}) {
			t.Errorf("FractionAtPath(%v) = %v", runs, got)
		}
	}
}

func TestFractionAtPathAtLimits(t *testing.T) {
	full, invalid := outcome{code: impl.ErrFull}, outcome{code: impl.ErrInvalid}
	cases := []struct {
		runs []int64
		want outcome
	}{
		{nil, outcome{f: frac(1, 1)}}, {[]int64{}, outcome{f: frac(1, 1)}}, {[]int64{1}, outcome{f: frac(2, 1)}}, {[]int64{0, 1}, outcome{f: frac(1, 2)}},
		{[]int64{1e9 - 1}, outcome{f: frac(1e9, 1)}}, {[]int64{1e9}, full}, {[]int64{1e9 + 1}, invalid},
		{[]int64{0, 1e9 - 1}, outcome{f: frac(1, 1e9)}}, {[]int64{0, 1e9}, full}, {[]int64{0, 1e9 + 1}, invalid},
		{[]int64{1, 1e9 - 2}, outcome{f: frac(1e9, 1e9-1)}}, {[]int64{1, 1e9 - 1}, full}, {[]int64{1e9 - 1, 1}, full},
		{[]int64{0, 1, 1e9 - 2}, outcome{f: frac(1e9-1, 1e9)}}, {[]int64{0, 1, 1e9 - 1}, full},
		{repeated(42, 1), outcome{f: frac(701408733, 433494437)}}, {repeated(43, 1), full}, {repeated(43, 0, 1), outcome{f: frac(433494437, 701408733)}},
		{repeated(60, 1), full}, {repeated(61, 1), invalid}, {repeated(60, 0, 1e9), full}, {repeated(60, 1e9), full}, {repeated(61, 0, 1e9), invalid},
		{[]int64{0}, invalid}, {[]int64{1, 0}, invalid}, {[]int64{0, 1, 0}, invalid}, {[]int64{1e9, 1e9, 0}, invalid}, {[]int64{1e9, -1}, invalid},
	}
	for _, c := range cases {
		if got := outcomeOf(impl.FractionAtPath(c.runs)); got != c.want {
			t.Errorf("FractionAtPath(%v) = %v, want %v", c.runs, got, c.want)
		}
	}
	wrapped := wrappedPaths()
	if len(wrapped) < 20 {
		t.Errorf("only %d paths that look plain were looked at", len(wrapped))
	}
	for _, runs := range wrapped {
		if got := outcomeOf(impl.FractionAtPath(runs)); got != full {
			t.Errorf("FractionAtPath(%v) = %v", runs, got)
		}
	}
}

func TestParentChildrenBounds(t *testing.T) {
	full := 0
	for _, f := range positiveFractions() {
		b := boundsByRule(f)
		p, q, r, s, code := impl.BoundsOf(f)
		if (b != [4]int64{p, q, r, s}) || code != impl.OK {
			t.Fatalf("BoundsOf(%v) = %d, %d, %d, %d, %d, want %v", f, p, q, r, s, code, b)
		}
		want := outcome{f: parentByRule(f)}
		if f == frac(1, 1) {
			want = outcome{code: impl.ErrNotFound}
		}
		if got := outcomeOf(impl.ParentFraction(f)); got != want {
			t.Fatalf("ParentFraction(%v) = %v, want %v", f, got, want)
		}
		wantLeft, wantRight, wantCode := frac(b[0]+f.Num, b[1]+f.Den), frac(b[2]+f.Num, b[3]+f.Den), int64(impl.OK)
		if !plainByRule(wantLeft) || !plainByRule(wantRight) {
			full++
			wantLeft, wantRight, wantCode = impl.Fraction{}, impl.Fraction{}, impl.ErrFull
		}
		left, right, code := impl.ChildrenOf(f)
		if left != wantLeft || right != wantRight || code != wantCode {
			t.Fatalf("ChildrenOf(%v) = %v, %v, %d, want %v, %v, %d", f, left, right, code, wantLeft, wantRight, wantCode)
		}
		if code != impl.OK {
			continue
		}
		for _, child := range []impl.Fraction{left, right} {
			if back := outcomeOf(impl.ParentFraction(child)); back != (outcome{f: f}) {
				t.Fatalf("the child %v of %v has the parent %v", child, f, back)
			}
		}
	}
	if full < 20 {
		t.Errorf("only %d fractions with children that are not plain were looked at", full)
	}
}

func TestChildrenAtLimits(t *testing.T) {
	cases := []struct {
		f, left, right impl.Fraction
		code           int64
	}{
		{frac(1, 1), frac(1, 2), frac(2, 1), impl.OK}, {frac(2, 5), frac(3, 8), frac(3, 7), impl.OK}, {frac(3, 1), frac(5, 2), frac(4, 1), impl.OK},
		{frac(1, 3), frac(1, 4), frac(2, 5), impl.OK}, {frac(5e8, 1), frac(999999999, 2), frac(500000001, 1), impl.OK},
		{frac(1, 5e8), frac(1, 500000001), frac(2, 999999999), impl.OK}, {frac(500000001, 1), impl.Fraction{}, impl.Fraction{}, impl.ErrFull},
		{frac(1, 500000001), impl.Fraction{}, impl.Fraction{}, impl.ErrFull}, {frac(1e9, 1), impl.Fraction{}, impl.Fraction{}, impl.ErrFull},
		{frac(1, 1e9), impl.Fraction{}, impl.Fraction{}, impl.ErrFull}, {frac(1e9, 1e9-1), impl.Fraction{}, impl.Fraction{}, impl.ErrFull},
	}
	for _, c := range cases {
		if left, right, code := impl.ChildrenOf(c.f); left != c.left || right != c.right || code != c.code {
			t.Errorf("ChildrenOf(%v) = %v, %v, %d, want %v, %v, %d", c.f, left, right, code, c.left, c.right, c.code)
		}
	}
	if p, q, r, s, code := impl.BoundsOf(frac(1e9, 1)); p != 999999999 || q != 1 || r != 1 || s != 0 || code != impl.OK {
		t.Errorf("the bounds of 10^9 are %d, %d, %d, %d, %d", p, q, r, s, code)
	}
	if p, q, r, s, code := impl.BoundsOf(frac(1, 1e9)); p != 0 || q != 1 || r != 1 || s != 999999999 || code != impl.OK {
		t.Errorf("the bounds of 1 / 10^9 are %d, %d, %d, %d, %d", p, q, r, s, code)
	}
}

func TestCommonAncestorOfLarge(t *testing.T) {
	list := positiveFractions()
	ancestors := 0
	for i, a := range list {
		for _, b := range list[i%7:] {
			want := commonByRule(a, b)
			if got := outcomeOf(impl.CommonAncestor(a, b)); got != (outcome{f: want}) {
				t.Fatalf("CommonAncestor(%v, %v) = %v, want %v", a, b, got, want)
			}
			is := want == a && a != b
			if is {
				ancestors++
			}
			if got, code := impl.IsAncestor(a, b); got != is || code != impl.OK {
				t.Fatalf("IsAncestor(%v, %v) = %v, %d", a, b, got, code)
			}
		}
	}
	if ancestors < 1000 {
		t.Errorf("only %d ancestors were looked at", ancestors)
	}
}

func TestAncestorsKnown(t *testing.T) {
	cases := []struct {
		a, b, common impl.Fraction
	}{
		{frac(2, 5), frac(1, 4), frac(1, 3)}, {frac(2, 5), frac(3, 7), frac(2, 5)}, {frac(1, 2), frac(2, 1), frac(1, 1)}, {frac(1, 1), frac(1, 1), frac(1, 1)},
		{frac(1, 1), frac(1e9, 1), frac(1, 1)}, {frac(1e9, 1), frac(1, 1e9), frac(1, 1)}, {frac(1e9, 1), frac(1e9-1, 1), frac(1e9-1, 1)},
		{frac(7, 2), frac(10, 3), frac(7, 2)}, {frac(1, 1e9), frac(1, 7), frac(1, 7)}, {frac(1, 1e9), frac(2, 7), frac(1, 4)}, {frac(3, 1), frac(5, 2), frac(3, 1)},
	}
	for _, c := range cases {
		for _, pair := range [][2]impl.Fraction{{c.a, c.b}, {c.b, c.a}} {
			if got := outcomeOf(impl.CommonAncestor(pair[0], pair[1])); got != (outcome{f: c.common}) {
				t.Errorf("CommonAncestor(%v, %v) = %v, want %v", pair[0], pair[1], got, c.common)
			}
			if is, code := impl.IsAncestor(pair[0], pair[1]); is != (pair[0] == c.common && c.a != c.b) || code != impl.OK {
				t.Errorf("IsAncestor(%v, %v) = %v, %d", pair[0], pair[1], is, code)
			}
		}
	}
}

func TestRowOfTree(t *testing.T) {
	for level := range int64(11) {
		row, code := impl.RowOfTree(level)
		if len(row) != 1<<level || code != impl.OK {
			t.Fatalf("the row %d has %d elements, %d", level, len(row), code)
		}
		for i, f := range row {
			// The bits of the index are the steps: 1 leads to the right.
			steps := ""
			for bit := level - 1; bit >= 0; bit-- {
				steps += string("LR"[i>>bit&1])
			}
			if want := middle(stepped(steps)); f != want {
				t.Fatalf("the element %d of the row %d is %v, want %v", i, level, f, want)
			}
			if i > 0 && ratOf(row[i-1]).Cmp(ratOf(f)) >= 0 {
				t.Fatalf("the row %d does not ascend at %v", level, f)
			}
			if got, code := impl.LevelOf(f); got != level || code != impl.OK {
				t.Fatalf("LevelOf(%v) = %d, %d, want %d", f, got, code, level)
			}
		}
	}
	if row, _ := impl.RowOfTree(0); !slices.Equal(row, []impl.Fraction{frac(1, 1)}) {
		t.Errorf("the row 0 is %v", row)
	}
	if row, _ := impl.RowOfTree(2); !slices.Equal(row, []impl.Fraction{frac(1, 3), frac(2, 3), frac(3, 2), frac(3, 1)}) {
		t.Errorf("the row 2 is %v", row)
	}
	for _, level := range []int64{math.MinInt64, -1e18, -11, -1, 11, 12, 63, 64, 256, 1 << 32, 1<<32 + 1, math.MaxInt64} {
		if row, code := impl.RowOfTree(level); len(row) != 0 || code != impl.ErrRange {
			t.Errorf("RowOfTree(%d) = %v, %d", level, row, code)
		}
	}
}

// TestTreeErrors gives fractions that are not plain, and plain ones that are 0 or negative, also both together.
func TestTreeErrors(t *testing.T) {
	good, errors := frac(2, 5), placeErrors()
	for f, want := range errors {
		if runs, code := impl.PathTo(f); len(runs) != 0 || code != want {
			t.Fatalf("PathTo(%v) = %v, %d, want %d", f, runs, code, want)
		}
		if level, code := impl.LevelOf(f); level != 0 || code != want {
			t.Fatalf("LevelOf(%v) = %d, %d, want %d", f, level, code, want)
		}
		if parent := outcomeOf(impl.ParentFraction(f)); parent != (outcome{code: want}) {
			t.Fatalf("ParentFraction(%v) = %v, want %d", f, parent, want)
		}
		if left, right, code := impl.ChildrenOf(f); left != (impl.Fraction{}) || right != (impl.Fraction{}) || code != want {
			t.Fatalf("ChildrenOf(%v) = %v, %v, %d, want %d", f, left, right, code, want)
		}
		if p, q, r, s, code := impl.BoundsOf(f); p != 0 || q != 0 || r != 0 || s != 0 || code != want {
			t.Fatalf("BoundsOf(%v) = %d, %d, %d, %d, %d, want %d", f, p, q, r, s, code, want)
		}
		pairErrors(t, f, good, want)
		pairErrors(t, good, f, want)
	}
	for _, f := range []impl.Fraction{frac(2, 4), frac(1, 0), frac(-1, -1), frac(0, 2), {}} {
		for _, other := range []impl.Fraction{frac(0, 1), frac(-1, 2), frac(-1e9, 1)} {
			pairErrors(t, f, other, impl.ErrInvalid)
			pairErrors(t, other, f, impl.ErrInvalid)
			pairErrors(t, other, other, impl.ErrRange)
		}
		pairErrors(t, f, f, impl.ErrInvalid)
	}
}

func pairErrors(t *testing.T, a, b impl.Fraction, want int64) {
	if common := outcomeOf(impl.CommonAncestor(a, b)); common != (outcome{code: want}) {
		t.Fatalf("CommonAncestor(%v, %v) = %v, want %d", a, b, common, want)
	}
	if is, code := impl.IsAncestor(a, b); is || code != want {
		t.Fatalf("IsAncestor(%v, %v) = %v, %d, want %d", a, b, is, code, want)
	}
}

// pathForm is the shape of a text of a path; how great its numbers are and how many is another question.
var pathForm = regexp.MustCompile(`^(top|(R[1-9][0-9]*( L[1-9][0-9]* R[1-9][0-9]*)*( L[1-9][0-9]*)?)|(L[1-9][0-9]*( R[1-9][0-9]* L[1-9][0-9]*)*( R[1-9][0-9]*)?))$`)

// readPathByRule reads the path out of a text that has the form of one.
func readPathByRule(s string) ([]int64, bool) {
	if !pathForm.MatchString(s) {
		return nil, false
	}
	var runs []int64
	for _, part := range strings.Fields(strings.TrimPrefix(s, "top")) {
		if len(runs) == 0 && part[0] == 'L' {
			runs = append(runs, 0)
		}
		n, err := strconv.ParseInt(part[1:], 10, 64)
		if err != nil {
			return nil, false
		}
		runs = append(runs, n)
	}
	if !pathByRule(runs) {
		return nil, false
	}
	return runs, true
}

func TestPathText(t *testing.T) {
	for want, runs := range map[string][]int64{
		"top": nil, "L2 R1": {0, 2, 1}, "R1": {1}, "L1": {0, 1}, "R1 L3": {1, 3}, "R10 L20 R30": {10, 20, 30}, "R1000000000": {1e9},
		"L1000000000 R1000000000": {0, 1e9, 1e9}, "R1" + strings.Repeat(" L1 R1", 29) + " L1": repeated(60, 1),
		"L1" + strings.Repeat(" R1 L1", 29): repeated(60, 0, 1),
	} {
		if got := impl.PathText(runs); got != want {
			t.Errorf("PathText(%v) = %q, want %q", runs, got, want)
		}
	}
	for _, runs := range allPaths() {
		text := impl.PathText(runs)
		if !pathForm.MatchString(text) {
			t.Fatalf("PathText(%v) = %q", runs, text)
		}
		if back, ok := impl.ReadPath(text); !slices.Equal(back, runs) || !ok {
			t.Fatalf("ReadPath(%q) = %v, %v, want %v", text, back, ok, runs)
		}
	}
	for _, runs := range noPaths() {
		if text := impl.PathText(runs); text != "" {
			t.Fatalf("PathText(%v) = %q", runs, text)
		}
	}
}

func TestReadPathOfNearTexts(t *testing.T) {
	texts := []string{
		"top", "", "R1", "L1", "L2 R1", "R1 L3", "R10 L20 R30", "L100 R1 L10", "R1000000000", "L1000000000 R1000000000",
		"R1" + strings.Repeat(" L1 R1", 29) + " L1", "L1" + strings.Repeat(" R1 L1", 29),
	}
	for _, s := range texts {
		for _, near := range append(nearTexts(s), s) {
			want, fine := readPathByRule(near)
			if got, ok := impl.ReadPath(near); !slices.Equal(got, want) || ok != fine {
				t.Fatalf("ReadPath(%q) = %v, %v, want %v, %v", near, got, ok, want, fine)
			}
		}
	}
}

func TestReadPathRefuses(t *testing.T) {
	bad := []string{
		"", " ", "R", "L", "R0", "L0", "R0 L1", "R0 L0", "R1 L0", "L1 R0", "R1 R2", "L1 L2", "R1 L1 L1", "r1", "l1", "R1 l1", "L1  R1", " R1", "R1 ", "R1 L1 ",
		"R1\tL1", "R1\n", "R1,L1", "R1, L1", "R1L1", "R 1", "R+1", "R-1", "R-0", "R01", "L1 R01", "RR1", "R1R", "1", "1R", "1 R", "R1.5", "Ra", "R1/2", "[1; 3]",
		"Top", "TOP", "to", "topp", "top ", " top", "top top", "top R1", "R1 top", "topR1", "R1 L1 top", "\xff", "R\xff", "R\uff11", "R1 \u0141", "R1\x00",
		"R1000000001", "L1000000001", "R1 L1000000001", "R1000000000000000000", "R18446744073709551617", "L1 R18446744073709551617",
		"R9223372036854775807", "R-9223372036854775808", "R1" + strings.Repeat(" L1 R1", 30), "L1" + strings.Repeat(" R1 L1", 29) + " R1",
		"R1" + strings.Repeat(" L1 R1", 1<<14), "R" + strings.Repeat("1", 1<<16), strings.Repeat("R", 1<<16), strings.Repeat(" ", 1<<16), strings.Repeat("top", 1<<14),
	}
	for _, s := range bad {
		if runs, ok := impl.ReadPath(s); len(runs) != 0 || ok {
			t.Errorf("ReadPath(%.60q) = %v, %v", s, runs, ok)
		}
	}
	if runs, ok := impl.ReadPath("top"); len(runs) != 0 || !ok {
		t.Errorf("ReadPath of the empty path is %v, %v", runs, ok)
	}
}
