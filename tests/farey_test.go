package tests

import (
	"math/big"
	"slices"
	"strings"
	"testing"

	"loop.example/g01007/impl"
)

// zeroToOne tells whether a plain fraction is from 0 to 1.
func zeroToOne(f impl.Fraction) bool {
	return f.Num >= 0 && f.Num <= f.Den
}

// fareyByRule are all plain fractions from 0 to 1 whose Den is at most the order, sorted.
func fareyByRule(order int64) []impl.Fraction {
	var list []impl.Fraction
	for den := int64(1); den <= order; den++ {
		for num := int64(0); num <= den; num++ {
			if f := frac(num, den); plainByRule(f) {
				list = append(list, f)
			}
		}
	}
	slices.SortFunc(list, func(a, b impl.Fraction) int { return ratOf(a).Cmp(ratOf(b)) })
	return list
}

// fareyPlaces are fractions from 0 to 1 of all sizes.
func fareyPlaces() []impl.Fraction {
	list := slices.Concat(fareyByRule(13), plainFractions(), manyFractions(), positiveFractions())
	list = slices.DeleteFunc(list, func(f impl.Fraction) bool { return !plainByRule(f) || !zeroToOne(f) })
	for _, den := range []int64{9, 10, 11, 39, 40, 41, 42, 997, 1000, 1001, 5000, 5001, 9999, 10000, 10001, 20000, 20001, 99991, 1e9 - 1, 1e9} {
		for _, num := range []int64{1, 2, 3, den / 3, den/2 - 1, den / 2, den/2 + 1, den * 2 / 3, den - 3, den - 2, den - 1} {
			if f := frac(num, den); plainByRule(f) {
				list = append(list, f)
			}
		}
	}
	return list
}

// noFareyPlaces are fractions that are not plain, or less than 0, or greater than 1, with the code for each of them.
func noFareyPlaces() map[impl.Fraction]int64 {
	errors := map[impl.Fraction]int64{}
	for _, f := range slices.Concat(wideFractions(), manyFractions()) {
		if !plainByRule(f) {
			errors[f] = impl.ErrInvalid
		} else if !zeroToOne(f) {
			errors[f] = impl.ErrRange
		}
	}
	for f, code := range map[impl.Fraction]int64{
		frac(-1, 1): impl.ErrRange, frac(-1, 1e9): impl.ErrRange, frac(2, 1): impl.ErrRange, frac(1e9, 1e9-1): impl.ErrRange, frac(1e9, 1): impl.ErrRange,
		frac(-1e9, 1): impl.ErrRange, frac(41, 40): impl.ErrRange, frac(2, 2): impl.ErrInvalid, frac(0, 2): impl.ErrInvalid, frac(2, 4): impl.ErrInvalid,
		frac(0, 0): impl.ErrInvalid, frac(1, 0): impl.ErrInvalid, frac(-1, -2): impl.ErrInvalid, frac(1, 1e9+1): impl.ErrInvalid,
	} {
		errors[f] = code
	}
	return errors
}

// noOrders are the numbers wide that are no order up to most, and those next to the limits.
func noOrders(most int64) []int64 {
	list := slices.DeleteFunc(slices.Clone(wide), func(n int64) bool { return n >= 1 && n <= most })
	return append(list, -1, 0, most+1, most+2, 2*most, 1<<32+most)
}

// aroundByRule tells whether low and high are the elements next to f before and behind it: they are neighbours of the
// order around f, and no other element is between them but f, if it is one. Only the mediant of two neighbours, and
// fractions with greater denominators, are between them.
func aroundByRule(order int64, low, f, high impl.Fraction) bool {
	if !plainByRule(low) || !plainByRule(high) || low.Den > order || high.Den > order {
		return false
	}
	if ratOf(low).Cmp(ratOf(f)) >= 0 || ratOf(f).Cmp(ratOf(high)) >= 0 {
		return false
	}
	if f.Den <= order {
		return f.Num*low.Den-low.Num*f.Den == 1 && high.Num*f.Den-f.Num*high.Den == 1 && low.Den+f.Den > order && f.Den+high.Den > order
	}
	return high.Num*low.Den-low.Num*high.Den == 1 && low.Den+high.Den > order
}

// touchByRule tells whether two circles touch from outside: the distance of their centres is the sum of their radii.
func touchByRule(a, b impl.Fraction) bool {
	radius := func(f impl.Fraction) *big.Rat {
		square := new(big.Int).Mul(big.NewInt(f.Den), big.NewInt(f.Den))
		return new(big.Rat).SetFrac(big.NewInt(1), square.Lsh(square, 1))
	}
	square := func(x *big.Rat) *big.Rat { return new(big.Rat).Mul(x, x) }
	aside := square(new(big.Rat).Sub(ratOf(a), ratOf(b)))
	above := square(new(big.Rat).Sub(radius(a), radius(b)))
	return aside.Add(aside, above).Cmp(square(new(big.Rat).Add(radius(a), radius(b)))) == 0
}

func TestFareyConstants(t *testing.T) {
	if impl.MaxOrder != 40 || impl.MaxFarey != 10000 {
		t.Errorf("MaxOrder is %d, MaxFarey is %d", impl.MaxOrder, impl.MaxFarey)
	}
}

// TestTotientOf counts for small numbers. For greater ones, the totients of all divisors of a number have it as their sum.
func TestTotientOf(t *testing.T) {
	for n := int64(1); n <= 600; n++ {
		want := int64(0)
		for k := int64(1); k <= n; k++ {
			if new(big.Int).GCD(nil, nil, big.NewInt(k), big.NewInt(n)).Int64() == 1 {
				want++
			}
		}
		if got, code := impl.TotientOf(n); got != want || code != impl.OK {
			t.Fatalf("TotientOf(%d) = %d, %d, want %d", n, got, code, want)
		}
	}
	for n := int64(999950); n <= 1000000; n++ {
		sum := int64(0)
		for divisor := int64(1); divisor <= n; divisor++ {
			if n%divisor == 0 {
				totient, _ := impl.TotientOf(divisor)
				sum += totient
			}
		}
		if sum != n {
			t.Fatalf("the totients of the divisors of %d have the sum %d", n, sum)
		}
	}
}

func TestTotientOfKnown(t *testing.T) {
	for n, want := range map[int64]int64{
		1: 1, 2: 1, 3: 2, 4: 2, 5: 4, 6: 2, 12: 4, 13: 12, 25: 20, 27: 18, 64: 32, 97: 96, 343: 294, 1000: 400, 65537: 65536, 524288: 262144, 531441: 354294,
		510510: 92160, 720720: 138240, 994009: 993012, 999983: 999982, 999966: 298080, 999999: 466560, 1000000: 400000, 961: 930, 997: 996,
	} {
		if got, code := impl.TotientOf(n); got != want || code != impl.OK {
			t.Errorf("TotientOf(%d) = %d, %d, want %d", n, got, code, want)
		}
	}
	for _, n := range noOrders(1000000) {
		if got, code := impl.TotientOf(n); got != 0 || code != impl.ErrRange {
			t.Errorf("TotientOf(%d) = %d, %d", n, got, code)
		}
	}
}

func TestFareyCount(t *testing.T) {
	want := int64(1)
	for order := int64(1); order <= 1000; order++ {
		for num := int64(1); num <= order; num++ {
			a, b := num, order
			for b != 0 {
				a, b = b, a%b
			}
			if a == 1 {
				want++
			}
		}
		if got, code := impl.FareyCount(order); got != want || code != impl.OK {
			t.Fatalf("FareyCount(%d) = %d, %d, want %d", order, got, code, want)
		}
	}
	for order, want := range map[int64]int64{1: 2, 2: 3, 3: 5, 5: 11, 10: 33, 40: 491, 100: 3045, 999: 303793, 1000: 304193} {
		if got, code := impl.FareyCount(order); got != want || code != impl.OK {
			t.Errorf("FareyCount(%d) = %d, %d, want %d", order, got, code, want)
		}
	}
	for _, order := range noOrders(1000) {
		if got, code := impl.FareyCount(order); got != 0 || code != impl.ErrRange {
			t.Errorf("FareyCount(%d) = %d, %d", order, got, code)
		}
	}
}

// TestFareySequence compares sequences with sorted ones, and looks for each element by its place and for its place.
func TestFareySequence(t *testing.T) {
	for order := int64(1); order <= impl.MaxOrder; order++ {
		want := fareyByRule(order)
		list, code := impl.FareySequence(order)
		if !slices.Equal(list, want) || code != impl.OK {
			t.Fatalf("FareySequence(%d) = %v, %d, want %v", order, list, code, want)
		}
		if count, _ := impl.FareyCount(order); count != int64(len(want)) {
			t.Fatalf("FareyCount(%d) = %d, want %d", order, count, len(want))
		}
		for i, f := range want {
			if got := outcomeOf(impl.FareyAt(order, int64(i))); got != (outcome{f: f}) {
				t.Fatalf("FareyAt(%d, %d) = %v, want %v", order, i, got, f)
			}
			if rank, code := impl.FareyRank(order, f); rank != int64(i) || code != impl.OK {
				t.Fatalf("FareyRank(%d, %v) = %d, %d, want %d", order, f, rank, code, i)
			}
		}
		for _, k := range slices.Concat(wide, []int64{-1, int64(len(want)), int64(len(want)) + 1, 1 << 32}) {
			if k >= 0 && k < int64(len(want)) {
				continue
			}
			if got := outcomeOf(impl.FareyAt(order, k)); got != (outcome{code: impl.ErrNotFound}) {
				t.Fatalf("FareyAt(%d, %d) = %v", order, k, got)
			}
		}
	}
}

func TestFareySequenceKnown(t *testing.T) {
	zero, one := frac(0, 1), frac(1, 1)
	for order, want := range map[int64][]impl.Fraction{
		1: {zero, one}, 2: {zero, frac(1, 2), one}, 3: {zero, frac(1, 3), frac(1, 2), frac(2, 3), one},
		4: {zero, frac(1, 4), frac(1, 3), frac(1, 2), frac(2, 3), frac(3, 4), one},
	} {
		if list, code := impl.FareySequence(order); !slices.Equal(list, want) || code != impl.OK {
			t.Errorf("FareySequence(%d) = %v, %d, want %v", order, list, code, want)
		}
	}
	for _, order := range noOrders(impl.MaxOrder) {
		if list, code := impl.FareySequence(order); len(list) != 0 || code != impl.ErrRange {
			t.Errorf("FareySequence(%d) = %v, %d", order, list, code)
		}
		for _, k := range []int64{-1, 0, 1, 5000} {
			if got := outcomeOf(impl.FareyAt(order, k)); got != (outcome{code: impl.ErrRange}) {
				t.Errorf("FareyAt(%d, %d) = %v", order, k, got)
			}
		}
	}
}

// TestFareyRankNotFound takes fractions from 0 to 1 that are no elements.
func TestFareyRankNotFound(t *testing.T) {
	for _, order := range []int64{1, 2, 3, 10, 39, 40} {
		count := 0
		for _, f := range fareyPlaces() {
			if f.Den <= order {
				continue
			}
			count++
			if rank, code := impl.FareyRank(order, f); rank != 0 || code != impl.ErrNotFound {
				t.Fatalf("FareyRank(%d, %v) = %d, %d", order, f, rank, code)
			}
		}
		if count < 200 {
			t.Errorf("only %d fractions that are no elements were looked at", count)
		}
	}
}

// TestNextFareyOfSmallOrders finds the next elements in sorted sequences.
func TestNextFareyOfSmallOrders(t *testing.T) {
	zero, one, none := frac(0, 1), frac(1, 1), outcome{code: impl.ErrNotFound}
	places := fareyPlaces()
	for _, order := range []int64{1, 2, 3, 4, 7, 12, 40, 60} {
		list := fareyByRule(order)
		for _, f := range places {
			next, before := none, none
			for _, e := range list {
				switch ratOf(e).Cmp(ratOf(f)) {
				case -1:
					before = outcome{f: e}
				case 1:
					if next == none {
						next = outcome{f: e}
					}
				}
			}
			if (next == none) != (f == one) || (before == none) != (f == zero) {
				t.Fatalf("%v stands between %v and %v", f, before, next)
			}
			if got := outcomeOf(impl.NextFarey(order, f)); got != next {
				t.Fatalf("NextFarey(%d, %v) = %v, want %v", order, f, got, next)
			}
			if got := outcomeOf(impl.BeforeFarey(order, f)); got != before {
				t.Fatalf("BeforeFarey(%d, %v) = %v, want %v", order, f, got, before)
			}
		}
	}
}

// TestNextFareyOfGreatOrders looks at the elements on both sides together.
func TestNextFareyOfGreatOrders(t *testing.T) {
	for _, order := range []int64{1, 41, 500, 997, 5000, 9999, 10000} {
		elements, others := 0, 0
		for _, f := range fareyPlaces() {
			next, before := outcomeOf(impl.NextFarey(order, f)), outcomeOf(impl.BeforeFarey(order, f))
			if f == frac(0, 1) {
				before = outcome{f: frac(-1, order)}
			}
			if f == frac(1, 1) {
				next = outcome{f: frac(order+1, order)}
			}
			if next.code != impl.OK || before.code != impl.OK || !aroundByRule(order, before.f, f, next.f) {
				t.Fatalf("of the order %d, %v stands between %v and %v", order, f, before, next)
			}
			if f.Den <= order {
				elements++
			} else {
				others++
			}
		}
		if elements < 2 || others < 100 {
			t.Errorf("only %d elements and %d others of the order %d were looked at", elements, others, order)
		}
	}
}

func TestNextFareyKnown(t *testing.T) {
	none := outcome{code: impl.ErrNotFound}
	cases := []struct {
		order        int64
		f            impl.Fraction
		before, next outcome
	}{
		{5, frac(1, 2), outcome{f: frac(2, 5)}, outcome{f: frac(3, 5)}}, {3, frac(3, 5), outcome{f: frac(1, 2)}, outcome{f: frac(2, 3)}},
		{1, frac(0, 1), none, outcome{f: frac(1, 1)}}, {1, frac(1, 1), outcome{f: frac(0, 1)}, none}, {1, frac(1, 2), outcome{f: frac(0, 1)}, outcome{f: frac(1, 1)}},
		{10000, frac(0, 1), none, outcome{f: frac(1, 10000)}}, {10000, frac(1, 1), outcome{f: frac(9999, 10000)}, none},
		{10000, frac(1, 1e9), outcome{f: frac(0, 1)}, outcome{f: frac(1, 10000)}}, {10000, frac(1e9-1, 1e9), outcome{f: frac(9999, 10000)}, outcome{f: frac(1, 1)}},
		{10000, frac(1, 2), outcome{f: frac(4999, 9999)}, outcome{f: frac(5000, 9999)}}, {10000, frac(1, 10000), outcome{f: frac(0, 1)}, outcome{f: frac(1, 9999)}},
		{4, frac(2, 5), outcome{f: frac(1, 3)}, outcome{f: frac(1, 2)}}, {6, frac(5, 12), outcome{f: frac(2, 5)}, outcome{f: frac(1, 2)}},
	}
	for _, c := range cases {
		if got := outcomeOf(impl.NextFarey(c.order, c.f)); got != c.next {
			t.Errorf("NextFarey(%d, %v) = %v, want %v", c.order, c.f, got, c.next)
		}
		if got := outcomeOf(impl.BeforeFarey(c.order, c.f)); got != c.before {
			t.Errorf("BeforeFarey(%d, %v) = %v, want %v", c.order, c.f, got, c.before)
		}
	}
}

// fareyErrors calls each function of an order and a fraction: the code short is wanted of those with the limit
// MaxOrder, and the code long of those with the limit MaxFarey.
func fareyErrors(t *testing.T, order int64, f impl.Fraction, short, long int64) {
	t.Helper()
	if got := outcomeOf(impl.NextFarey(order, f)); got != (outcome{code: long}) {
		t.Fatalf("NextFarey(%d, %v) = %v, want %d", order, f, got, long)
	}
	if got := outcomeOf(impl.BeforeFarey(order, f)); got != (outcome{code: long}) {
		t.Fatalf("BeforeFarey(%d, %v) = %v, want %d", order, f, got, long)
	}
	if rank, code := impl.FareyRank(order, f); rank != 0 || code != short {
		t.Fatalf("FareyRank(%d, %v) = %d, %d, want %d", order, f, rank, code, short)
	}
	if list, code := impl.TouchingCircles(order, f); len(list) != 0 || code != short {
		t.Fatalf("TouchingCircles(%d, %v) = %v, %d, want %d", order, f, list, code, short)
	}
}

// TestFareyErrors gives fractions that are not plain or out of range, with numbers that are an order and ones that are
// none, and then numbers that are none with fractions from 0 to 1, where 0 and 1 have no error of their own yet.
func TestFareyErrors(t *testing.T) {
	for f, want := range noFareyPlaces() {
		for _, order := range []int64{1, 2, 40} {
			fareyErrors(t, order, f, want, want)
		}
		for _, order := range []int64{-1, 0, 41, 10000, 10001} {
			fareyErrors(t, order, f, want, want)
		}
	}
	for _, f := range fareyPlaces() {
		for _, order := range noOrders(impl.MaxFarey) {
			fareyErrors(t, order, f, impl.ErrRange, impl.ErrRange)
		}
	}
	for _, f := range []impl.Fraction{frac(0, 1), frac(1, 2), frac(1, 41), frac(1, 1e9), frac(1, 1)} {
		for _, order := range []int64{41, 42, 1000, 1001, 10000} {
			if rank, code := impl.FareyRank(order, f); rank != 0 || code != impl.ErrRange {
				t.Errorf("FareyRank(%d, %v) = %d, %d", order, f, rank, code)
			}
			if list, code := impl.TouchingCircles(order, f); len(list) != 0 || code != impl.ErrRange {
				t.Errorf("TouchingCircles(%d, %v) = %v, %d", order, f, list, code)
			}
		}
	}
}

func TestCircleOf(t *testing.T) {
	plain, full := 0, 0
	for _, f := range slices.Concat(wideFractions(), manyFractions(), fareyPlaces()) {
		want := outcome{code: impl.ErrInvalid}
		if plainByRule(f) {
			square := new(big.Int).Mul(big.NewInt(f.Den), big.NewInt(f.Den))
			want = plainOrFull(new(big.Rat).SetFrac(big.NewInt(1), square.Lsh(square, 1)))
			if want.code == impl.OK {
				plain++
			} else {
				full++
			}
		}
		if got := outcomeOf(impl.CircleOf(f)); got != want {
			t.Fatalf("CircleOf(%v) = %v, want %v", f, got, want)
		}
	}
	if plain < 100 || full < 100 {
		t.Errorf("only %d circles with a plain radius and %d others were looked at", plain, full)
	}
	too := outcome{code: impl.ErrFull}
	for f, want := range map[impl.Fraction]outcome{
		frac(1, 2): {f: frac(1, 8)}, frac(0, 1): {f: frac(1, 2)}, frac(1, 1): {f: frac(1, 2)}, frac(-7, 1): {f: frac(1, 2)}, frac(1e9, 1): {f: frac(1, 2)},
		frac(-5, 3): {f: frac(1, 18)}, frac(1, 22360): {f: frac(1, 999939200)}, frac(-1e9+1, 22360): {f: frac(1, 999939200)}, frac(1, 22361): too,
		frac(1, 31623): too, frac(1, 1e9): too, frac(-1, 707106781): too, frac(1, 707106782): too, frac(1, 3037000500): {code: impl.ErrInvalid},
		frac(1, 0): {code: impl.ErrInvalid}, frac(1, -1): {code: impl.ErrInvalid}, frac(2, 4): {code: impl.ErrInvalid}, {}: {code: impl.ErrInvalid},
	} {
		if got := outcomeOf(impl.CircleOf(f)); got != want {
			t.Errorf("CircleOf(%v) = %v, want %v", f, got, want)
		}
	}
}

func TestCirclesTouch(t *testing.T) {
	count := 0
	pairsDo(func(a, b impl.Fraction) {
		want, wantCode := false, int64(impl.ErrInvalid)
		if plainByRule(a) && plainByRule(b) {
			want, wantCode = touchByRule(a, b), impl.OK
		}
		if want {
			count++
		}
		if got, code := impl.CirclesTouch(a, b); got != want || code != wantCode {
			t.Fatalf("CirclesTouch(%v, %v) = %v, %d, want %v, %d", a, b, got, code, want, wantCode)
		}
	})
	if count < 100 {
		t.Errorf("only %d circles that touch were looked at", count)
	}
	for _, f := range fareyPlaces() {
		if got, code := impl.CirclesTouch(f, f); got || code != impl.OK {
			t.Errorf("the circle on %v touches itself: %d", f, code)
		}
	}
	cases := []struct {
		a, b  impl.Fraction
		touch bool
	}{
		{frac(1, 2), frac(2, 3), true}, {frac(1, 2), frac(1, 4), false}, {frac(0, 1), frac(1, 1), true}, {frac(0, 1), frac(1, 1e9), true}, {frac(0, 1), frac(2, 1), false},
		{frac(-1, 1), frac(0, 1), true}, {frac(5, 1), frac(6, 1), true}, {frac(-1, 2), frac(1, 2), false}, {frac(1e9-1, 1e9), frac(1, 1), true},
		{frac(1e9-2, 1e9-1), frac(1e9-1, 1e9), true}, {frac(1e9, 1), frac(-1e9, 1), false}, {frac(1, 1e9), frac(1, 1e9-1), true}, {frac(-1e9, 1e9-1), frac(1e9, 1e9-1), false},
	}
	for _, c := range cases {
		for _, pair := range [][2]impl.Fraction{{c.a, c.b}, {c.b, c.a}} {
			if got, code := impl.CirclesTouch(pair[0], pair[1]); got != c.touch || code != impl.OK {
				t.Errorf("CirclesTouch(%v, %v) = %v, %d", pair[0], pair[1], got, code)
			}
		}
	}
}

// TestTouchingCircles compares with all elements whose circles touch by their centres and radii.
func TestTouchingCircles(t *testing.T) {
	empty, some := 0, 0
	for _, order := range []int64{1, 2, 3, 7, 10, 25, 39, 40} {
		list := fareyByRule(order)
		for i, f := range slices.Concat(list, fareyPlaces()) {
			if i > len(list) && order > 10 && i%5 != 0 {
				continue
			}
			var want []impl.Fraction
			for _, e := range list {
				if touchByRule(e, f) {
					want = append(want, e)
				}
			}
			if len(want) == 0 {
				empty++
			} else {
				some++
			}
			if got, code := impl.TouchingCircles(order, f); !slices.Equal(got, want) || code != impl.OK {
				t.Fatalf("TouchingCircles(%d, %v) = %v, %d, want %v", order, f, got, code, want)
			}
		}
	}
	if empty < 100 || some < 500 {
		t.Errorf("only %d circles that others touch and %d that none touches were looked at", some, empty)
	}
}

func TestTouchingCirclesKnown(t *testing.T) {
	cases := []struct {
		order int64
		f     impl.Fraction
		want  []impl.Fraction
	}{
		{3, frac(1, 2), []impl.Fraction{frac(0, 1), frac(1, 3), frac(2, 3), frac(1, 1)}}, {1, frac(0, 1), []impl.Fraction{frac(1, 1)}}, {1, frac(1, 1), []impl.Fraction{frac(0, 1)}},
		{4, frac(0, 1), []impl.Fraction{frac(1, 4), frac(1, 3), frac(1, 2), frac(1, 1)}}, {4, frac(1, 1), []impl.Fraction{frac(0, 1), frac(1, 2), frac(2, 3), frac(3, 4)}},
		{1, frac(1, 2), []impl.Fraction{frac(0, 1), frac(1, 1)}}, {1, frac(1, 3), []impl.Fraction{frac(0, 1)}}, {1, frac(2, 5), nil}, {2, frac(2, 5), []impl.Fraction{frac(1, 2)}},
		{40, frac(1, 1e9), []impl.Fraction{frac(0, 1)}}, {40, frac(1e9-1, 1e9), []impl.Fraction{frac(1, 1)}}, {40, frac(1, 40), []impl.Fraction{frac(0, 1), frac(1, 39)}},
	}
	for _, c := range cases {
		if got, code := impl.TouchingCircles(c.order, c.f); !slices.Equal(got, c.want) || code != impl.OK {
			t.Errorf("TouchingCircles(%d, %v) = %v, %d, want %v", c.order, c.f, got, code, c.want)
		}
	}
	for _, f := range []impl.Fraction{frac(0, 1), frac(1, 1)} {
		if got, code := impl.TouchingCircles(40, f); len(got) != 40 || code != impl.OK {
			t.Errorf("TouchingCircles(40, %v) = %v, %d", f, got, code)
		}
	}
}

func TestFareyLines(t *testing.T) {
	known := []string{
		"0 1", "0 1/2 1", "0 1/3 1/2 2/3 1", "0 1/4 1/3 1/2 2/3 3/4 1", "0 1/5 1/4 1/3 2/5 1/2 3/5 2/3 3/4 4/5 1",
		"0 1/6 1/5 1/4 1/3 2/5 1/2 3/5 2/3 3/4 4/5 5/6 1",
	}
	for order := int64(1); order <= 10; order++ {
		lines, code := impl.FareyLines(order)
		if int64(len(lines)) != order || code != impl.OK {
			t.Fatalf("FareyLines(%d) = %q, %d", order, lines, code)
		}
		for i, line := range lines {
			var parts []string
			for _, f := range fareyByRule(int64(i) + 1) {
				parts = append(parts, ratOf(f).RatString())
			}
			if want := strings.Join(parts, " "); line != want || i < len(known) && line != known[i] {
				t.Fatalf("the line %d of FareyLines(%d) is %q, want %q", i, order, line, want)
			}
		}
	}
	for _, order := range noOrders(10) {
		if lines, code := impl.FareyLines(order); len(lines) != 0 || code != impl.ErrRange {
			t.Errorf("FareyLines(%d) = %q, %d", order, lines, code)
		}
	}
}
