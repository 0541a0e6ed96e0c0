package tests

import (
	"fmt"
	"math"
	"math/big"
	"regexp"
	"slices"
	"strconv"
	"strings"
	"testing"

	"loop.example/g01007/impl"
)

// kinds are the numbers of all kinds, in order.
var kinds = []int64{impl.KindNearest, impl.KindEven, impl.KindOdd, impl.KindNegative}

// noKinds are numbers that are none of a kind.
var noKinds = []int64{math.MinInt64, -257, -4, -1, 0, 5, 6, 255, 256, 257, 1 << 32, 1<<32 + 1, math.MaxInt64}

// signed are terms with signs: a number below 0 behind the first one has the Sign -1.
func signed(first int64, others ...int64) []impl.SignedTerm {
	list := []impl.SignedTerm{{Sign: 1, Term: first}}
	for _, n := range others {
		if n < 0 {
			list = append(list, impl.SignedTerm{Sign: -1, Term: -n})
		} else {
			list = append(list, impl.SignedTerm{Sign: 1, Term: n})
		}
	}
	return list
}

// withSigns gives signs to numbers: the Sign -1 behind the first one where the bit of the place is set.
func withSigns(numbers []int64, minus uint64) []impl.SignedTerm {
	var list []impl.SignedTerm
	for i, n := range numbers {
		sign := int64(1)
		if i > 0 && minus>>(i%64)&1 == 1 {
			sign = -1
		}
		list = append(list, impl.SignedTerm{Sign: sign, Term: n})
	}
	return list
}

// signedByRule tells what the document calls terms with signs.
func signedByRule(list []impl.SignedTerm) bool {
	for i, e := range list {
		least := int64(1)
		if i == 0 {
			least = -1e9
		}
		if e.Term < least || e.Term > 1e9 || e.Sign != 1 && (e.Sign != -1 || i == 0) {
			return false
		}
	}
	return len(list) >= 1 && len(list) <= 60
}

// smallSigned are all terms with signs up to a length, with the first Term from -2 to 2 and the others from 1 to 3.
func smallSigned(length int) [][]impl.SignedTerm {
	var list [][]impl.SignedTerm
	for _, terms := range smallTerms(length) {
		for minus := range uint64(1) << (len(terms) - 1) {
			list = append(list, withSigns(terms, minus<<1))
		}
	}
	return list
}

// longSigned are terms with signs of all lengths and sizes, most of which have no plain value.
func longSigned() [][]impl.SignedTerm {
	var list [][]impl.SignedTerm
	for i, terms := range slices.Concat(longTerms(), mixedTerms(300)) {
		for _, minus := range []uint64{0, math.MaxUint64, 0xaaaaaaaaaaaaaaaa, 0x9e3779b97f4a7c15 << (i % 8)} {
			list = append(list, withSigns(terms, minus))
		}
	}
	return list
}

func allSigned() [][]impl.SignedTerm {
	return slices.Concat(smallSigned(4), longSigned())
}

// noSigned are lists that are not terms with signs: too short, too long, with a Term out of range or a Sign that is
// none at each place, and with a first Sign -1.
func noSigned() [][]impl.SignedTerm {
	var list [][]impl.SignedTerm
	for _, terms := range noTerms() {
		list = append(list, withSigns(terms, 0), withSigns(terms, math.MaxUint64))
	}
	list = append(list, []impl.SignedTerm{})
	for _, length := range []int{1, 2, 3, 59, 60} {
		for place := range length {
			for _, sign := range wide {
				for _, minus := range []uint64{0, math.MaxUint64} {
					bad := withSigns(repeated(length, 2), minus)
					bad[place].Sign = sign
					if !signedByRule(bad) {
						list = append(list, bad)
					}
				}
			}
		}
	}
	return list
}

// manyFractions are plain fractions of all sizes: small ones, halves, ones with many terms, and ones at the limits.
func manyFractions() []impl.Fraction {
	list := plainFractions()
	for den := int64(1); den <= 24; den++ {
		for num := -3 * den; num <= 3*den; num++ {
			list = append(list, frac(num, den))
		}
	}
	for n := int64(55); n <= 66; n++ {
		list = append(list, frac(1, n), frac(-1, n), frac(n-1, n), frac(1-n, n), frac(n, n-1), frac(-n, n-1))
	}
	for half := int64(impl.MaxNum - 7); half <= impl.MaxNum; half++ {
		list = append(list, frac(half, 2), frac(-half, 2), frac(half, 1), frac(-half, 1), frac(2, half), frac(-2, half))
	}
	for _, terms := range mixedTerms(300) {
		if f, code := impl.ValueOfTerms(terms[:min(len(terms), 12)]); code == impl.OK {
			list = append(list, f)
		}
	}
	for _, terms := range [][]int64{repeated(43, 1), repeated(40, -1, 1), repeated(20, 2), repeated(14, 0, 4)} {
		f, _ := impl.ValueOfTerms(terms)
		list = append(list, f)
	}
	return slices.DeleteFunc(list, func(f impl.Fraction) bool { return !plainByRule(f) })
}

// floorByRule is the greatest integer that is at most x.
func floorByRule(x *big.Rat) *big.Rat {
	return new(big.Rat).SetInt(new(big.Int).Div(x.Num(), x.Denom()))
}

// termByRule is the term of a number by a kind, in the words of the document.
func termByRule(x *big.Rat, kind int64) *big.Rat {
	one, two, half := big.NewRat(1, 1), big.NewRat(2, 1), big.NewRat(1, 2)
	t := new(big.Rat)
	switch kind {
	case 1:
		return floorByRule(t.Add(x, half))
	case 2:
		return t.Mul(two, floorByRule(t.Mul(t.Add(x, one), half)))
	case 3:
		return t.Add(t.Mul(two, floorByRule(t.Mul(x, half))), one)
	}
	return t.Neg(floorByRule(t.Neg(x)))
}

// expandedByRule are the terms of a fraction by a kind, and the code.
func expandedByRule(f impl.Fraction, kind int64) ([]impl.SignedTerm, int64) {
	if !plainByRule(f) {
		return nil, impl.ErrInvalid
	}
	if kind < 1 || kind > 4 {
		return nil, impl.ErrRange
	}
	if kind == 2 && f.Num&1 == 1 && f.Den&1 == 1 {
		return nil, impl.ErrState
	}
	var list []impl.SignedTerm
	x, sign := ratOf(f), 1
	for len(list) <= 60 {
		t := termByRule(x, kind)
		list = append(list, impl.SignedTerm{Sign: int64(sign), Term: t.Num().Int64()})
		rest := new(big.Rat).Sub(x, t)
		if rest.Sign() == 0 {
			break
		}
		sign = rest.Sign()
		x = rest.Inv(rest.Abs(rest))
	}
	if !signedByRule(list) {
		return nil, impl.ErrFull
	}
	return list, impl.OK
}

// convergentsWithSigns are the convergents by the rule with p and q, and the code.
func convergentsWithSigns(list []impl.SignedTerm) ([]impl.Fraction, int64) {
	if !signedByRule(list) {
		return nil, impl.ErrInvalid
	}
	var all []impl.Fraction
	p, q, pBefore, qBefore := big.NewInt(1), big.NewInt(0), big.NewInt(0), big.NewInt(1)
	next := func(e impl.SignedTerm, last, before *big.Int) *big.Int {
		sum := new(big.Int).Mul(big.NewInt(e.Term), last)
		return sum.Add(sum, new(big.Int).Mul(big.NewInt(e.Sign), before))
	}
	limit := big.NewInt(1e9)
	for _, e := range list {
		p, q, pBefore, qBefore = next(e, p, pBefore), next(e, q, qBefore), p, q
		if q.Sign() == 0 {
			return nil, impl.ErrState
		}
		if p.CmpAbs(limit) > 0 || q.CmpAbs(limit) > 0 {
			return nil, impl.ErrFull
		}
		value := new(big.Rat).SetFrac(p, q)
		all = append(all, frac(value.Num().Int64(), value.Denom().Int64()))
	}
	return all, impl.OK
}

// valueWithSigns is the exact value in the words of the document; there is none if the value of a rest is 0.
func valueWithSigns(list []impl.SignedTerm) (*big.Rat, bool) {
	value := new(big.Rat).SetInt64(list[len(list)-1].Term)
	for i := len(list) - 1; i > 0; i-- {
		if value.Sign() == 0 {
			return nil, false
		}
		value.Quo(new(big.Rat).SetInt64(list[i].Sign), value)
		value.Add(value, new(big.Rat).SetInt64(list[i-1].Term))
	}
	return value, true
}

func TestKindName(t *testing.T) {
	if !slices.Equal(kinds, []int64{1, 2, 3, 4}) {
		t.Errorf("the kinds are %v", kinds)
	}
	for i, want := range []string{"nearest", "even", "odd", "negative"} {
		if got := impl.KindName(int64(i + 1)); got != want {
			t.Errorf("KindName(%d) = %q, want %q", i+1, got, want)
		}
	}
	for _, kind := range noKinds {
		if got := impl.KindName(kind); got != "" {
			t.Errorf("KindName(%d) = %q, want none", kind, got)
		}
	}
}

func TestValidSigned(t *testing.T) {
	for _, list := range allSigned() {
		if !impl.ValidSigned(list) {
			t.Errorf("ValidSigned(%v) is false", list)
		}
	}
	for _, list := range noSigned() {
		if impl.ValidSigned(list) {
			t.Errorf("ValidSigned(%v) is true", list)
		}
	}
	good := [][]impl.SignedTerm{
		signed(0), signed(-1e9), signed(1e9), signed(-1e9, -1e9, 1e9), signed(0, -1), withSigns(repeated(60, 0, 1e9), math.MaxUint64),
	}
	for _, list := range good {
		if !impl.ValidSigned(list) {
			t.Errorf("ValidSigned(%v) is false", list)
		}
	}
	bad := [][]impl.SignedTerm{
		nil, {}, {{Sign: -1, Term: 1}}, {{Sign: 0, Term: 1}}, {{Sign: 1, Term: 1}, {Sign: 0, Term: 1}}, {{Sign: 1, Term: 1}, {Sign: 2, Term: 1}},
		{{Sign: 1, Term: 1}, {Sign: -1, Term: 0}}, {{Sign: 1, Term: 1}, {Sign: -1, Term: -1}}, {{Sign: 1, Term: 1e9 + 1}},
		withSigns(repeated(61, 1), 0), {{Sign: math.MinInt64, Term: math.MaxInt64}},
	}
	for _, list := range bad {
		if impl.ValidSigned(list) {
			t.Errorf("ValidSigned(%v) is true", list)
		}
	}
}

func TestSameSigned(t *testing.T) {
	lists := slices.Concat(smallSigned(2), noSigned()[:300], [][]impl.SignedTerm{nil, {}, signed(1, 2), signed(1, 2, 3)})
	for _, a := range lists {
		for _, b := range lists {
			if got, want := impl.SameSigned(a, b), fmt.Sprint(a) == fmt.Sprint(b); got != want {
				t.Fatalf("SameSigned(%v, %v) = %v", a, b, got)
			}
		}
	}
	long := withSigns(repeated(200, 7), math.MaxUint64)
	for place := range long {
		for _, change := range []impl.SignedTerm{{Sign: 5, Term: 7}, {Sign: long[place].Sign, Term: math.MinInt64}} {
			other := slices.Clone(long)
			other[place] = change
			if impl.SameSigned(long, other) || impl.SameSigned(other, long) || !impl.SameSigned(other, slices.Clone(other)) {
				t.Fatalf("a difference at %d does not count", place)
			}
		}
	}
}

func TestExpandSigned(t *testing.T) {
	ended, full := 0, 0
	fractions := slices.Concat(wideFractions(), manyFractions())
	for _, f := range fractions {
		for _, kind := range slices.Concat(kinds, noKinds[:4]) {
			want, wantCode := expandedByRule(f, kind)
			list, code := impl.ExpandSigned(f, kind)
			if !slices.Equal(list, want) || code != wantCode {
				t.Fatalf("ExpandSigned(%v, %d) = %v, %d, want %v, %d", f, kind, list, code, want, wantCode)
			}
			switch code {
			case impl.OK:
				ended++
			case impl.ErrFull:
				full++
			}
		}
	}
	if ended < 5000 || full < 100 {
		t.Errorf("only %d expansions and %d that are too long were looked at", ended, full)
	}
}

func TestExpandSignedOfKnown(t *testing.T) {
	const nearest, even, odd, negative = impl.KindNearest, impl.KindEven, impl.KindOdd, impl.KindNegative
	cases := []struct {
		f    impl.Fraction
		kind int64
		want []impl.SignedTerm
	}{
		{frac(7, 5), nearest, signed(1, 3, -2)}, {frac(7, 5), odd, signed(1, 3, -3, -1)}, {frac(7, 5), negative, signed(2, -2, -3)},
		{frac(-7, 5), nearest, signed(-1, -3, -2)}, {frac(-7, 5), odd, signed(-1, -3, -3, -1)}, {frac(-7, 5), negative, signed(-1, -3, -2)},
		{frac(8, 5), even, signed(2, -2, 2)}, {frac(-8, 5), even, signed(-2, 2, 2)},
		{frac(0, 1), nearest, signed(0)}, {frac(0, 1), even, signed(0)}, {frac(0, 1), odd, signed(1, -1)}, {frac(0, 1), negative, signed(0)},
		{frac(3, 1), nearest, signed(3)}, {frac(3, 1), odd, signed(3)}, {frac(3, 1), negative, signed(3)},
		{frac(-3, 1), nearest, signed(-3)}, {frac(-3, 1), odd, signed(-3)}, {frac(-3, 1), negative, signed(-3)},
		{frac(4, 1), even, signed(4)}, {frac(4, 1), odd, signed(5, -1)}, {frac(-4, 1), even, signed(-4)}, {frac(-4, 1), odd, signed(-3, -1)},
		{frac(1, 2), nearest, signed(1, -2)}, {frac(1, 2), even, signed(0, 2)}, {frac(1, 2), odd, signed(1, -3, -1)}, {frac(1, 2), negative, signed(1, -2)},
		{frac(-1, 2), nearest, signed(0, -2)}, {frac(-1, 2), even, signed(0, -2)}, {frac(-1, 2), odd, signed(-1, 3, -1)}, {frac(-1, 2), negative, signed(0, -2)},
		{frac(3, 2), nearest, signed(2, -2)}, {frac(-3, 2), nearest, signed(-1, -2)}, {frac(-3, 2), even, signed(-2, 2)},
		{frac(-5, 2), nearest, signed(-2, -2)}, {frac(5, 2), nearest, signed(3, -2)}, {frac(-3, 4), even, signed(0, -2, -2, -2)},
		{frac(1e9, 1), even, signed(1e9)}, {frac(-1e9, 1), odd, signed(-999999999, -1)}, {frac(-1e9, 1), negative, signed(-1e9)},
		{frac(1, 1e9), nearest, signed(0, 1e9)}, {frac(-1, 1e9), negative, signed(0, -1e9)}, {frac(-1, 1e9), even, signed(0, -1e9)},
		{frac(1, 60), negative, withSigns(repeated(60, 1, 2), math.MaxUint64)}, {frac(59, 60), even, withSigns(repeated(60, 0, 2), math.MaxUint64-2)},
	}
	for _, c := range cases {
		if list, code := impl.ExpandSigned(c.f, c.kind); !slices.Equal(list, c.want) || code != impl.OK {
			t.Errorf("ExpandSigned(%v, %d) = %v, %d, want %v", c.f, c.kind, list, code, c.want)
		}
	}
}

func TestExpandSignedErrors(t *testing.T) {
	const nearest, even, odd, negative = impl.KindNearest, impl.KindEven, impl.KindOdd, impl.KindNegative
	cases := []struct {
		f    impl.Fraction
		kind int64
		want int64
	}{
		{frac(2, 4), nearest, impl.ErrInvalid}, {frac(1, 0), odd, impl.ErrInvalid}, {frac(0, 0), even, impl.ErrInvalid}, {frac(1, -2), negative, impl.ErrInvalid},
		{frac(1e9+1, 1), odd, impl.ErrInvalid}, {frac(math.MinInt64, math.MaxInt64), negative, impl.ErrInvalid},
		{frac(3, 3), 0, impl.ErrInvalid}, {frac(3, 3), even, impl.ErrInvalid}, {frac(1, 1e9+1), negative, impl.ErrInvalid},
		{frac(1, 3), 0, impl.ErrRange}, {frac(1, 3), 5, impl.ErrRange}, {frac(1, 1e9), -1, impl.ErrRange},
		{frac(7, 5), even, impl.ErrState}, {frac(-7, 5), even, impl.ErrState}, {frac(1, 1), even, impl.ErrState}, {frac(-1, 1), even, impl.ErrState},
		{frac(999999997, 999999999), even, impl.ErrState}, {frac(-999999999, 1), even, impl.ErrState}, {frac(1, 999999999), even, impl.ErrState},
		{frac(1, 61), negative, impl.ErrFull}, {frac(60, 61), even, impl.ErrFull}, {frac(-60, 61), even, impl.ErrFull}, {frac(1, 1e9), negative, impl.ErrFull},
		{frac(999999999, 1e9), even, impl.ErrFull}, {frac(1e9, 1), odd, impl.ErrFull}, {frac(-999999999, 1e9), odd, impl.ErrFull},
	}
	for _, c := range cases {
		if list, code := impl.ExpandSigned(c.f, c.kind); len(list) != 0 || code != c.want {
			t.Errorf("ExpandSigned(%v, %d) = %v, %d, want %d", c.f, c.kind, list, code, c.want)
		}
	}
}

func TestConvergentsAndValueOfSigned(t *testing.T) {
	count := map[int64]int{}
	for _, list := range slices.Concat(allSigned(), noSigned()) {
		wantAll, wantCode := convergentsWithSigns(list)
		count[wantCode]++
		want := outcome{code: wantCode}
		if wantCode == impl.OK {
			want.f = wantAll[len(wantAll)-1]
		}
		if all, code := impl.SignedConvergents(list); !slices.Equal(all, wantAll) || code != wantCode {
			t.Fatalf("SignedConvergents(%v) = %v, %d, want %v, %d", list, all, code, wantAll, wantCode)
		}
		if got := outcomeOf(impl.ValueOfSigned(list)); got != want {
			t.Fatalf("ValueOfSigned(%v) = %v, want %v", list, got, want)
		}
		wantTerms := []int64(nil)
		if wantCode == impl.OK {
			wantTerms = shortByRule(ratOf(want.f))
		}
		if terms, code := impl.TermsFromSigned(list); !slices.Equal(terms, wantTerms) || code != wantCode {
			t.Fatalf("TermsFromSigned(%v) = %v, %d, want %v, %d", list, terms, code, wantTerms, wantCode)
		}
	}
	for _, code := range []int64{impl.OK, impl.ErrInvalid, impl.ErrState, impl.ErrFull} {
		if count[code] < 100 {
			t.Errorf("only %d lists with the code %d were looked at", count[code], code)
		}
	}
}

func TestSignedConvergentsAtLimits(t *testing.T) {
	full, state := outcome{code: impl.ErrFull}, outcome{code: impl.ErrState}
	cases := []struct {
		list []impl.SignedTerm
		want outcome
	}{
		{signed(1, 3, -2), outcome{f: frac(7, 5)}}, {signed(2, -2, -3), outcome{f: frac(7, 5)}}, {signed(0), outcome{f: frac(0, 1)}},
		{signed(1e9), outcome{f: frac(1e9, 1)}}, {signed(-1e9), outcome{f: frac(-1e9, 1)}}, {signed(1, -1), outcome{f: frac(0, 1)}},
		{signed(999999999, 1), outcome{f: frac(1e9, 1)}}, {signed(1e9, 1), full}, {signed(1e9, -1), outcome{f: frac(999999999, 1)}},
		{signed(-499999999, -3, -1), full}, {signed(-999999999, -1), outcome{f: frac(-1e9, 1)}}, {signed(-1e9, -1), full}, {signed(-1e9, 1), outcome{f: frac(-999999999, 1)}},
		{signed(0, 1e9), outcome{f: frac(1, 1e9)}}, {signed(0, -1e9), outcome{f: frac(-1, 1e9)}}, {signed(1, 1e9), full}, {signed(1, -1e9), outcome{f: frac(999999999, 1e9)}},
		{signed(0, 1e9, 1), full}, {signed(0, 1e9, -1), outcome{f: frac(1, 999999999)}}, {signed(0, 999999999, 1), outcome{f: frac(1, 1e9)}},
		{signed(1, 1, -1), state}, {signed(-1e9, 1, -1), state}, {signed(1, 2, -1, -1, -1), outcome{f: frac(3, 2)}}, {signed(5, 3, -1, -2, 1), outcome{f: frac(17, 3)}},
		{signed(7, 2, -1, -1, 1), state}, {signed(1, 1, -1, 1e9, 1e9), state}, {signed(0, 1e9, 1e9, 1, -1), full}, {signed(1e9, 1, 1, -1), full},
		{signed(0, 2, -1, -1), outcome{f: frac(0, 1)}}, {signed(3, 2, -1, -1), outcome{f: frac(3, 1)}}, {signed(-3, -2, -1, -1), outcome{f: frac(-3, 1)}},
		{signed(0, 2, -1, -1, 1e9), outcome{f: frac(-1, 999999999)}}, {signed(0, 2, -1, -1, -999999999), outcome{f: frac(1, 1e9)}}, {signed(0, 2, -1, -1, -1e9), full},
		{withSigns(repeated(60, 1, 2), math.MaxUint64), outcome{f: frac(1, 60)}}, {withSigns(repeated(61, 1, 2), math.MaxUint64), outcome{code: impl.ErrInvalid}},
		{withSigns(repeated(43, 1), 0), outcome{f: frac(701408733, 433494437)}}, {withSigns(repeated(44, 1), 0), full}, {withSigns(repeated(60, 1e9), 0), full},
	}
	for _, c := range cases {
		value := outcomeOf(impl.ValueOfSigned(c.list))
		all, code := impl.SignedConvergents(c.list)
		if value != c.want || lastOutcome(all, len(c.list), code) != c.want {
			t.Errorf("%v has the value %v and the convergents %v, %d, want %v", c.list, value, all, code, c.want)
		}
	}
}

func TestKindOfSigned(t *testing.T) {
	is := 0
	expanded := [][]impl.SignedTerm{}
	for _, f := range manyFractions() {
		for _, kind := range kinds {
			if list, code := impl.ExpandSigned(f, kind); code == impl.OK {
				expanded = append(expanded, list)
			}
		}
	}
	for _, list := range slices.Concat(allSigned(), expanded) {
		all, code := convergentsWithSigns(list)
		for _, kind := range kinds {
			want := false
			if code == impl.OK {
				own, ownCode := expandedByRule(all[len(all)-1], kind)
				want = ownCode == impl.OK && slices.Equal(own, list)
			}
			if want {
				is++
			}
			if got, gotCode := impl.KindOfSigned(list, kind); got != want || gotCode != impl.OK {
				t.Fatalf("KindOfSigned(%v, %d) = %v, %d, want %v", list, kind, got, gotCode, want)
			}
		}
	}
	if is < 1000 {
		t.Errorf("only %d lists of their kind were looked at", is)
	}
}

func TestKindOfSignedErrors(t *testing.T) {
	for _, kind := range slices.Concat(kinds, noKinds) {
		for _, list := range noSigned()[:60] {
			if is, code := impl.KindOfSigned(list, kind); is || code != impl.ErrInvalid {
				t.Fatalf("KindOfSigned(%v, %d) = %v, %d", list, kind, is, code)
			}
		}
		want := int64(impl.OK)
		if !slices.Contains(kinds, kind) {
			want = impl.ErrRange
		}
		// Some have no value that is plain on the way, and the others have one with other terms; neither is an error.
		for _, list := range [][]impl.SignedTerm{
			signed(1, 1, -1), signed(1e9, 1), signed(1, 1), signed(0, 2, -1, -1), signed(-499999999, -3, -1),
		} {
			if is, code := impl.KindOfSigned(list, kind); is || code != want {
				t.Errorf("KindOfSigned(%v, %d) = %v, %d, want %d", list, kind, is, code, want)
			}
		}
	}
}

func TestSignedFromTerms(t *testing.T) {
	for _, terms := range slices.Concat(smallTerms(4), longTerms(), mixedTerms(200), noTerms()[:200]) {
		for _, kind := range slices.Concat(kinds, noKinds[:5]) {
			value, wantCode := impl.ValueOfTerms(terms)
			want := []impl.SignedTerm(nil)
			if wantCode == impl.OK {
				want, wantCode = expandedByRule(value, kind)
			}
			if list, code := impl.SignedFromTerms(terms, kind); !slices.Equal(list, want) || code != wantCode {
				t.Fatalf("SignedFromTerms(%v, %d) = %v, %d, want %v, %d", terms, kind, list, code, want, wantCode)
			}
		}
	}
	for _, c := range []struct {
		terms      []int64
		kind, want int64
	}{
		{nil, 0, impl.ErrInvalid}, {[]int64{1, 0}, 9, impl.ErrInvalid}, {repeated(61, 1), 2, impl.ErrInvalid}, {[]int64{1e9, 1}, 0, impl.ErrFull},
		{repeated(60, 1), 5, impl.ErrFull}, {[]int64{1, 2, 2}, 5, impl.ErrRange}, {[]int64{1, 2, 2}, impl.KindEven, impl.ErrState},
		{[]int64{0, 61}, impl.KindNegative, impl.ErrFull}, {[]int64{1e9}, impl.KindOdd, impl.ErrFull},
	} {
		if list, code := impl.SignedFromTerms(c.terms, c.kind); len(list) != 0 || code != c.want {
			t.Errorf("SignedFromTerms(%v, %d) = %v, %d, want %d", c.terms, c.kind, list, code, c.want)
		}
	}
}

func TestSignedLengths(t *testing.T) {
	for _, f := range slices.Concat(wideFractions(), manyFractions()) {
		want, wantCode := []int64(nil), int64(impl.ErrInvalid)
		if plainByRule(f) {
			wantCode = impl.OK
			for _, kind := range kinds {
				if list, code := expandedByRule(f, kind); code == impl.OK {
					want = append(want, int64(len(list)))
				} else {
					want = append(want, -1)
				}
			}
		}
		if got, code := impl.SignedLengths(f); !slices.Equal(got, want) || code != wantCode {
			t.Fatalf("SignedLengths(%v) = %v, %d, want %v, %d", f, got, code, want, wantCode)
		}
	}
	for f, want := range map[impl.Fraction][]int64{
		frac(7, 5): {3, -1, 4, 3}, frac(0, 1): {1, 1, 2, 1}, frac(-1, 1): {1, -1, 1, 1}, frac(1e9, 1): {1, 1, -1, 1},
		frac(1, 60): {2, 2, 3, 60}, frac(1, 61): {2, -1, 4, -1}, frac(60, 61): {2, -1, 2, 2}, frac(1, 0): nil, frac(2, 4): nil,
	} {
		if got, _ := impl.SignedLengths(f); !slices.Equal(got, want) {
			t.Errorf("SignedLengths(%v) = %v, want %v", f, got, want)
		}
	}
}

// signedForm is the shape of a text of terms with signs; how great they are and how many is another question.
var signedForm = regexp.MustCompile(`^(0|-?[1-9][0-9]*)( [+-][1-9][0-9]*)*$`)

// readSignedByRule reads the terms with signs out of a text that has the form of one.
func readSignedByRule(s string) ([]impl.SignedTerm, bool) {
	if !signedForm.MatchString(s) {
		return nil, false
	}
	var numbers []int64
	for _, part := range strings.Fields(s) {
		n, err := strconv.ParseInt(part, 10, 64)
		if err != nil {
			return nil, false
		}
		numbers = append(numbers, n)
	}
	list := signed(numbers[0], numbers[1:]...)
	return list, signedByRule(list)
}

func TestSignedText(t *testing.T) {
	for want, list := range map[string][]impl.SignedTerm{
		"1 +3 -2": signed(1, 3, -2), "2 -2 -3": signed(2, -2, -3), "0": signed(0), "-7": signed(-7), "-1 -1": signed(-1, -1), "0 +1": signed(0, 1),
		"-1000000000 -1000000000 +1000000000": signed(-1e9, -1e9, 1e9), "1 +1 -1": signed(1, 1, -1),
		"1" + strings.Repeat(" -2", 59): withSigns(repeated(60, 1, 2), math.MaxUint64),
	} {
		if got := impl.SignedText(list); got != want {
			t.Errorf("SignedText(%v) = %q, want %q", list, got, want)
		}
	}
	for _, list := range allSigned() {
		text := impl.SignedText(list)
		if !signedForm.MatchString(text) {
			t.Fatalf("SignedText(%v) = %q", list, text)
		}
		if back, ok := impl.ReadSigned(text); !slices.Equal(back, list) || !ok {
			t.Fatalf("ReadSigned(%q) = %v, %v", text, back, ok)
		}
	}
	for _, list := range noSigned() {
		if text := impl.SignedText(list); text != "" {
			t.Fatalf("SignedText(%v) = %q", list, text)
		}
	}
}

func TestReadSignedOfNearTexts(t *testing.T) {
	texts := []string{
		"1 +3 -2", "-1 -3 +2", "0", "-1", "0 -1", "10 +10 -10", "-100 -20", "", "1000000000 -1000000000", "-1000000000 +1000000000",
		"1 " + strings.Repeat("+1 ", 58) + "-1",
	}
	for _, s := range texts {
		for _, near := range nearTexts(s) {
			want, fine := readSignedByRule(near)
			if !fine {
				want = nil
			}
			if got, ok := impl.ReadSigned(near); !slices.Equal(got, want) || ok != fine {
				t.Fatalf("ReadSigned(%q) = %v, %v, want %v, %v", near, got, ok, want, fine)
			}
		}
	}
}

func TestReadSignedRefuses(t *testing.T) {
	bad := []string{
		"", " ", "+", "-", "+1", "+0", "-0", "++1", "--1", "+-1", "01", "-01", "1 3", "1 +0", "1 -0", "1 +", "1 -", "1  +3", " 1", "1 ", "1 +3 ", "1\t+3",
		"1 +3\n", "1 ++3", "1 --3", "1 +-3", "1 -+3", "1 +03", "1 -03", "1 + 3", "1+3", "1 +3-2", "1 +3, -2", "1; +3", "[1 +3]", "(1 +3)", "1 *3", "1 /3",
		"1 3+", "1 +3 2", "1.5", "a", "1 +a", "1 +3 -", "1/2", "+1 +3", "1 \u22123", "\uff11 +3", "1 +\uff13", "\xff", "1 \xff", "1 +3\x00",
		"1000000001", "-1000000001", "1 +1000000001", "1 -1000000001", "1 +1 -1000000001", "1000000000000000000", "18446744073709551617", "1 +18446744073709551617",
		"-9223372036854775808", "1 -9223372036854775808", "1 +9223372036854775807", "1" + strings.Repeat(" +1", 60), "1" + strings.Repeat(" -1", 1<<14),
		strings.Repeat("1", 1<<16), strings.Repeat(" ", 1<<16), strings.Repeat("+", 1<<16), strings.Repeat(" +1", 1<<14),
	}
	for _, s := range bad {
		if list, ok := impl.ReadSigned(s); len(list) != 0 || ok {
			t.Errorf("ReadSigned(%.60q) = %v, %v", s, list, ok)
		}
	}
}
