package tests

import (
	"math"
	"math/big"
	"regexp"
	"slices"
	"strconv"
	"strings"
	"testing"

	"loop.example/g01007/impl"
)

// termsByRule tells what the document calls terms.
func termsByRule(list []int64) bool {
	for i, t := range list {
		least := int64(1)
		if i == 0 {
			least = -1e9
		}
		if t < least || t > 1e9 {
			return false
		}
	}
	return len(list) >= 1 && len(list) <= 60
}

// valueByRule is the exact value of terms: the first one, plus 1 divided by the value of the others.
func valueByRule(list []int64) *big.Rat {
	value := new(big.Rat)
	for i, t := range slices.Backward(list) {
		if i < len(list)-1 {
			value.Inv(value)
		}
		value.Add(value, new(big.Rat).SetInt64(t))
	}
	return value
}

// continuantByRule is the exact continuant: the last number times the one of all before it, plus that of all but the last two.
func continuantByRule(list []int64) *big.Int {
	all := []*big.Int{big.NewInt(1)}
	for i, t := range list {
		next := new(big.Int).Mul(big.NewInt(t), all[i])
		if i > 0 {
			next.Add(next, all[i-1])
		}
		all = append(all, next)
	}
	return all[len(list)]
}

// repeated are numbers, the last one of which is told so often that there are count of them.
func repeated(count int, numbers ...int64) []int64 {
	list := slices.Clone(numbers)
	for len(list) < count {
		list = append(list, numbers[len(numbers)-1])
	}
	return list[:count]
}

// smallTerms are all terms up to a length with the first one from -2 to 2, and the others from 1 to 3.
func smallTerms(length int) [][]int64 {
	var list [][]int64
	for first := int64(-2); first <= 2; first++ {
		list = append(list, []int64{first})
	}
	for i := 0; i < len(list); i++ {
		for t := int64(1); t <= 3 && len(list[i]) < length; t++ {
			list = append(list, append(slices.Clone(list[i]), t))
		}
	}
	return list
}

// longTerms are terms at the limits of their length and size, most of which have no plain value.
func longTerms() [][]int64 {
	const most = impl.MaxNum
	list := [][]int64{
		{most}, {-most}, {most, 1}, {-most, 1}, {most, 2}, {-most, 2}, {0, most}, {0, most, 1}, {0, most - 1, 1},
		{0, 1, most}, {0, 1, most, 1}, {0, 1, most - 1, 1}, {0, 2, most}, {-1, most}, {-1, 1, most}, {-1, 1, most - 1},
		{1, most}, {1, most - 1}, {-most + 1, 1}, {most - 1, 1}, {most - 1, 2}, {0, 1, 1, most}, {most, most}, {-most, most},
	}
	for _, n := range []int{42, 43, 44, 45, 46, 58, 59, 60} {
		for _, first := range []int64{-most, -1, 0, 1, most} {
			for _, other := range []int64{1, 2, most} {
				list = append(list, repeated(n, first, other))
				for _, last := range []int64{1, 2, most} {
					list = append(list, append(repeated(n-1, first, other), last))
				}
				list = append(list, append(repeated(n-2, first, other), most, 1))
				list = append(list, append(repeated(n-2, first, other), most-1, 1))
			}
		}
	}
	return list
}

// mixedTerms are terms of all lengths and sizes, from a generator that always gives the same ones.
func mixedTerms(count int) [][]int64 {
	state := uint64(7)
	next := func(below int64) int64 {
		state = state*6364136223846793005 + 1442695040888963407
		return int64(state>>33) % below
	}
	var list [][]int64
	for i := range count {
		most := []int64{2, 5, 1000, impl.MaxNum}[i%4]
		terms := []int64{next(2*most+1) - most}
		for n := next(int64([]int{4, 12, 60}[i%3])); n > 0; n-- {
			terms = append(terms, 1+next(most))
		}
		list = append(list, terms)
	}
	return list
}

// noTerms are lists that are not terms: too short, too long, and with a number out of range at each place.
func noTerms() [][]int64 {
	list := [][]int64{nil, {}, repeated(61, 1), repeated(61, -5, 2), repeated(61, 0, impl.MaxNum), repeated(1000, 1), repeated(61, 0)}
	for _, length := range []int{1, 2, 3, 4, 59, 60} {
		for place := range length {
			for _, n := range wide {
				if bad := replaced(repeated(length, 1), place, n); !termsByRule(bad) {
					list = append(list, bad)
				}
			}
		}
	}
	return list
}

func replaced(list []int64, place int, n int64) []int64 {
	list[place] = n
	return list
}

func allTerms() [][]int64 {
	return slices.Concat(smallTerms(5), longTerms(), mixedTerms(600))
}

// shortByRule are the short terms with an exact value.
func shortByRule(value *big.Rat) []int64 {
	var list []int64
	num, den := new(big.Int).Set(value.Num()), new(big.Int).Set(value.Denom())
	for den.Sign() != 0 {
		rest := new(big.Int)
		floor, _ := new(big.Int).DivMod(num, den, rest)
		list = append(list, floor.Int64())
		num, den = den, rest
	}
	return list
}

// otherByRule are the terms with the same value that list is not.
func otherByRule(list []int64) []int64 {
	short := shortByRule(valueByRule(list))
	if !slices.Equal(short, list) {
		return short
	}
	last := len(list) - 1
	return append(slices.Clone(list[:last]), list[last]-1, 1)
}

func TestValidTerms(t *testing.T) {
	for _, list := range allTerms() {
		if !impl.ValidTerms(list) {
			t.Errorf("ValidTerms(%v) is false", list)
		}
	}
	for _, list := range noTerms() {
		if impl.ValidTerms(list) {
			t.Errorf("ValidTerms(%v) is true", list)
		}
	}
	for _, list := range [][]int64{{0}, {-1e9}, {1e9}, {-1e9, 1e9, 1}, repeated(60, -1), repeated(60, 0, 1e9)} {
		if want := termsByRule(list); impl.ValidTerms(list) != want {
			t.Errorf("ValidTerms(%v) is not %v", list, want)
		}
	}
}

func TestExpandFraction(t *testing.T) {
	for _, f := range wideFractions() {
		list, code := impl.ExpandFraction(f)
		if !plainByRule(f) {
			if len(list) != 0 || code != impl.ErrInvalid {
				t.Errorf("ExpandFraction(%v) = %v, %d", f, list, code)
			}
			continue
		}
		if want := shortByRule(ratOf(f)); !slices.Equal(list, want) || code != impl.OK {
			t.Errorf("ExpandFraction(%v) = %v, %d, want %v", f, list, code, want)
		}
	}
	for f, want := range map[impl.Fraction][]int64{
		frac(45, 16): {2, 1, 4, 3}, frac(-7, 3): {-3, 1, 2}, frac(0, 1): {0}, frac(1, 1): {1}, frac(-1, 1): {-1},
		frac(1, 2): {0, 2}, frac(-1, 2): {-1, 2}, frac(1, 1e9): {0, 1e9}, frac(-1, 1e9): {-1, 1, 999999999},
		frac(-1e9, 1): {-1e9}, frac(1e9, 1): {1e9}, frac(999999999, 1e9): {0, 1, 999999999},
		frac(701408733, 433494437): append(repeated(41, 1), 2),
	} {
		if list, code := impl.ExpandFraction(f); !slices.Equal(list, want) || code != impl.OK {
			t.Errorf("ExpandFraction(%v) = %v, %d, want %v", f, list, code, want)
		}
	}
}

// convergentsByRule are the exact values of all beginnings, and whether all of them are plain.
func convergentsByRule(list []int64) ([]impl.Fraction, bool) {
	var all []impl.Fraction
	for i := range list {
		one := plainOrFull(valueByRule(list[:i+1]))
		if one.code != impl.OK {
			return nil, false
		}
		all = append(all, one.f)
	}
	return all, true
}

func TestConvergentsAndValue(t *testing.T) {
	plain, full := 0, 0
	for _, list := range allTerms() {
		wantAll, fine := convergentsByRule(list)
		want := outcome{code: impl.ErrFull}
		if fine {
			plain++
			want = outcome{f: wantAll[len(wantAll)-1]}
		} else {
			full++
		}
		all, code := impl.ConvergentsOf(list)
		if !slices.Equal(all, wantAll) || code != want.code {
			t.Errorf("ConvergentsOf(%v) = %v, %d, want %v, %d", list, all, code, wantAll, want.code)
		}
		if got := outcomeOf(impl.ValueOfTerms(list)); got != want {
			t.Errorf("ValueOfTerms(%v) = %v, want %v", list, got, want)
		}
	}
	if plain < 500 || full < 100 {
		t.Errorf("only %d plain values and %d others were looked at", plain, full)
	}
}

func TestConvergentsAtLimits(t *testing.T) {
	cases := []struct {
		list []int64
		want outcome
	}{
		{[]int64{2, 1, 4, 2, 1}, outcome{f: frac(45, 16)}},
		{[]int64{7}, outcome{f: frac(7, 1)}},
		{[]int64{6, 1}, outcome{f: frac(7, 1)}},
		{[]int64{-1, 1}, outcome{f: frac(0, 1)}},
		{[]int64{-1, 1, 1}, outcome{f: frac(-1, 2)}},
		{[]int64{-1e9, 1}, outcome{f: frac(-999999999, 1)}},
		{[]int64{-1e9, 1, 1}, outcome{code: impl.ErrFull}},
		{[]int64{1e9 - 1, 1}, outcome{f: frac(1e9, 1)}},
		{[]int64{1e9, 1}, outcome{code: impl.ErrFull}},
		{[]int64{0, 1e9 - 1, 1}, outcome{f: frac(1, 1e9)}},
		{[]int64{0, 1e9, 1}, outcome{code: impl.ErrFull}},
		{[]int64{1, 1e9 - 1}, outcome{f: frac(1e9, 1e9-1)}},
		{[]int64{1, 1e9}, outcome{code: impl.ErrFull}},
		{repeated(43, 1), outcome{f: frac(701408733, 433494437)}},
		{repeated(44, 1), outcome{code: impl.ErrFull}},
		{repeated(44, -1, 1), outcome{f: frac(-267914296, 701408733)}},
		{repeated(45, -1, 1), outcome{code: impl.ErrFull}},
		{repeated(60, 1e9), outcome{code: impl.ErrFull}},
		{repeated(60, -1e9, 1e9), outcome{code: impl.ErrFull}},
	}
	for _, c := range cases {
		value := outcomeOf(impl.ValueOfTerms(c.list))
		all, code := impl.ConvergentsOf(c.list)
		if value != c.want || lastOutcome(all, len(c.list), code) != c.want {
			t.Errorf("%v has the value %v and the convergents %v, %d, want %v", c.list, value, all, code, c.want)
		}
	}
}

// lastOutcome is the last one of convergents with the code; there is none unless there are count of them just for OK.
func lastOutcome(all []impl.Fraction, count int, code int64) outcome {
	switch {
	case code == impl.OK && len(all) == count:
		return outcome{f: all[count-1]}
	case code != impl.OK && len(all) == 0:
		return outcome{code: code}
	}
	return outcome{code: -1}
}

func TestOtherForm(t *testing.T) {
	for _, list := range allTerms() {
		want, wantCode := otherByRule(list), int64(impl.OK)
		if !termsByRule(want) {
			want, wantCode = nil, impl.ErrFull
		}
		got, code := impl.OtherForm(list)
		if !slices.Equal(got, want) || code != wantCode {
			t.Errorf("OtherForm(%v) = %v, %d, want %v, %d", list, got, code, want, wantCode)
		}
		if code != impl.OK {
			continue
		}
		if back, code := impl.OtherForm(got); !slices.Equal(back, list) || code != impl.OK {
			t.Errorf("the other form of the other form of %v is %v, %d", list, back, code)
		}
	}
}

func TestOtherFormAtLimits(t *testing.T) {
	cases := []struct {
		list, want []int64
	}{
		{[]int64{2, 1, 4, 3}, []int64{2, 1, 4, 2, 1}},
		{[]int64{0}, []int64{-1, 1}},
		{[]int64{1}, []int64{0, 1}},
		{[]int64{0, 1}, []int64{1}},
		{[]int64{0, 1, 1}, []int64{0, 2}},
		{[]int64{0, 2}, []int64{0, 1, 1}},
		{[]int64{-5, 1}, []int64{-4}},
		{[]int64{-1e9}, nil},
		{[]int64{-1e9, 1}, []int64{-999999999}},
		{[]int64{1e9}, []int64{999999999, 1}},
		{[]int64{1e9, 1}, nil},
		{[]int64{0, 1e9, 1}, nil},
		{[]int64{0, 1e9 - 1, 1}, []int64{0, 1e9}},
		{repeated(60, 0, 2), nil},
		{repeated(59, 0, 2), append(repeated(58, 0, 2), 1, 1)},
		{append(repeated(58, 0, 2), 1, 1), repeated(59, 0, 2)},
		{append(repeated(58, 0, 2), 1e9, 1), nil},
	}
	for _, c := range cases {
		wantCode := int64(impl.OK)
		if c.want == nil {
			wantCode = impl.ErrFull
		}
		if got, code := impl.OtherForm(c.list); !slices.Equal(got, c.want) || code != wantCode {
			t.Errorf("OtherForm(%v) = %v, %d, want %v", c.list, got, code, c.want)
		}
	}
}

// closeTerms are terms whose values differ little from those of others, or not at all.
func closeTerms() [][]int64 {
	list := longTerms()
	for _, n := range []int{2, 3, 59, 60} {
		for place := range n {
			for _, t := range []int64{1, 2, 3, impl.MaxNum - 1, impl.MaxNum} {
				list = append(list, replaced(repeated(n, 2), place, t))
			}
		}
	}
	return list
}

func TestCompareTerms(t *testing.T) {
	for _, lists := range [][][]int64{smallTerms(4), closeTerms(), mixedTerms(150)} {
		values := make([]*big.Rat, len(lists))
		for i, list := range lists {
			values[i] = valueByRule(list)
		}
		for i, a := range lists {
			for j, b := range lists {
				want := int64(values[i].Cmp(values[j]))
				if got, code := impl.CompareTerms(a, b); got != want || code != impl.OK {
					t.Fatalf("CompareTerms(%v, %v) = %d, %d, want %d", a, b, got, code, want)
				}
			}
		}
	}
}

func TestContinuantOf(t *testing.T) {
	limit := big.NewInt(1e18)
	for _, list := range slices.Concat(allTerms(), noTerms(), closeTerms()) {
		want, wantCode := int64(0), int64(impl.OK)
		if len(list) > 60 || slices.ContainsFunc(list, func(n int64) bool { return n < 1 || n > 1e9 }) {
			wantCode = impl.ErrRange
		} else if exact := continuantByRule(list); exact.Cmp(limit) > 0 {
			wantCode = impl.ErrFull
		} else {
			want = exact.Int64()
		}
		if got, code := impl.ContinuantOf(list); got != want || code != wantCode {
			t.Errorf("ContinuantOf(%v) = %d, %d, want %d, %d", list, got, code, want, wantCode)
		}
	}
}

func TestContinuantAtLimits(t *testing.T) {
	for _, list := range [][]int64{nil, {}} {
		if got, code := impl.ContinuantOf(list); got != 1 || code != impl.OK {
			t.Errorf("the continuant of no numbers is %d, %d", got, code)
		}
	}
	if got, code := impl.ContinuantOf([]int64{1e9, 1e9 - 1}); got != 1e18-1e9+1 || code != impl.OK {
		t.Errorf("a continuant near the limit is %d, %d", got, code)
	}
	if got, code := impl.ContinuantOf([]int64{1e9, 1e9}); got != 0 || code != impl.ErrFull {
		t.Errorf("a continuant of 10^18 + 1 is %d, %d", got, code)
	}
	// The numbers of the expansion of n / 414213562373095049 have the continuant n.
	for n, wantCode := range map[int64]int64{1e18 - 1: impl.OK, 1e18: impl.OK, 1e18 + 1: impl.ErrFull, 1e18 + 3: impl.ErrFull} {
		list := shortByRule(big.NewRat(n, 414213562373095049))
		if continuantByRule(list).Int64() != n {
			t.Fatalf("%d has a divisor in common with the other number", n)
		}
		want := n
		if wantCode != impl.OK {
			want = 0
		}
		if got, code := impl.ContinuantOf(list); got != want || code != wantCode {
			t.Errorf("ContinuantOf(%v) = %d, %d, want %d, %d", list, got, code, want, wantCode)
		}
	}
	// Ones alone have Fibonacci numbers as continuants; none of 60 is out of the limit.
	if got, code := impl.ContinuantOf(repeated(60, 1)); got != 2504730781961 || code != impl.OK {
		t.Errorf("the continuant of 60 ones is %d, %d", got, code)
	}
	if got, code := impl.ContinuantOf(repeated(61, 1)); got != 0 || code != impl.ErrRange {
		t.Errorf("the continuant of 61 ones is %d, %d", got, code)
	}
	// A number out of range is told before a continuant that is too great.
	if got, code := impl.ContinuantOf([]int64{1e9, 1e9, 1e9, 0}); got != 0 || code != impl.ErrRange {
		t.Errorf("a number out of range behind a great continuant: %d, %d", got, code)
	}
}

func TestCommonTerms(t *testing.T) {
	cases := []struct {
		a, b []int64
		want int64
	}{
		{nil, nil, 0},
		{nil, []int64{}, 0},
		{nil, []int64{1}, 0},
		{[]int64{2, 1, 4, 3}, []int64{2, 1, 4, 2, 1}, 3},
		{[]int64{2, 1, 4, 3}, []int64{2, 1, 4, 3}, 4},
		{[]int64{2, 1}, []int64{2, 1, 4, 3}, 2},
		{[]int64{2}, []int64{1, 1}, 0},
		{[]int64{1, 2, 3}, []int64{0, 2, 3}, 0},
		{[]int64{1, 2, 3}, []int64{1, 5, 3}, 1},
		{repeated(60, -1e9, 1e9), repeated(60, -1e9, 1e9), 60},
		{repeated(60, -1, 2), replaced(repeated(60, -1, 2), 59, 3), 59},
		// Elements are counted, terms or not.
		{[]int64{0, 0, -5}, []int64{0, 0, -5, 1}, 3},
		{[]int64{math.MinInt64, math.MaxInt64}, []int64{math.MinInt64, math.MaxInt64}, 2},
		{repeated(100, 1), repeated(90, 1), 90},
	}
	for _, c := range cases {
		if got := impl.CommonTerms(c.a, c.b); got != c.want {
			t.Errorf("CommonTerms(%v, %v) = %d, want %d", c.a, c.b, got, c.want)
		}
		if got := impl.CommonTerms(c.b, c.a); got != c.want {
			t.Errorf("CommonTerms(%v, %v) = %d, want %d", c.b, c.a, got, c.want)
		}
	}
}

func TestSumOfTerms(t *testing.T) {
	for _, list := range allTerms() {
		want := new(big.Int)
		for _, n := range list[1:] {
			want.Add(want, big.NewInt(n))
		}
		if got, code := impl.SumOfTerms(list); got != want.Int64() || code != impl.OK {
			t.Errorf("SumOfTerms(%v) = %d, %d, want %d", list, got, code, want)
		}
	}
	if got, code := impl.SumOfTerms(repeated(60, 1e9)); got != 59e9 || code != impl.OK {
		t.Errorf("the greatest sum is %d, %d", got, code)
	}
	if got, code := impl.SumOfTerms([]int64{-7}); got != 0 || code != impl.OK {
		t.Errorf("the sum of no terms behind the first one is %d, %d", got, code)
	}
}

// textForm is the shape of a text of terms; how great they are and how many is another question.
var textForm = regexp.MustCompile(`^\[(0|-?[1-9][0-9]*)(; [1-9][0-9]*(, [1-9][0-9]*)*)?\]$`)

// readByRule reads the terms out of a text that has the form of one.
func readByRule(s string) ([]int64, bool) {
	if !textForm.MatchString(s) {
		return nil, false
	}
	var list []int64
	for _, part := range strings.FieldsFunc(s, func(r rune) bool { return strings.ContainsRune("[;, ]", r) }) {
		n, err := strconv.ParseInt(part, 10, 64)
		if err != nil {
			return nil, false
		}
		list = append(list, n)
	}
	if !termsByRule(list) {
		return nil, false
	}
	return list, true
}

func TestTermsText(t *testing.T) {
	cases := []struct {
		list []int64
		want string
	}{
		{[]int64{2}, "[2]"},
		{[]int64{-3, 1}, "[-3; 1]"},
		{[]int64{2, 1, 4, 3}, "[2; 1, 4, 3]"},
		{[]int64{2, 1, 4, 2, 1}, "[2; 1, 4, 2, 1]"},
		{[]int64{-1e9, 1e9}, "[-1000000000; 1000000000]"},
		{repeated(60, 0, 1), "[0; " + strings.Repeat("1, ", 58) + "1]"},
	}
	for _, c := range cases {
		if got := impl.TermsText(c.list); got != c.want {
			t.Errorf("TermsText(%v) = %q, want %q", c.list, got, c.want)
		}
	}
	for _, list := range allTerms() {
		text := impl.TermsText(list)
		if !textForm.MatchString(text) {
			t.Fatalf("TermsText(%v) = %q", list, text)
		}
		if back, ok := impl.ReadTerms(text); !slices.Equal(back, list) || !ok {
			t.Fatalf("ReadTerms(%q) = %v, %v", text, back, ok)
		}
	}
}

// nearTexts are all texts that differ from s in one byte: another one, one more, or one less.
func nearTexts(s string) []string {
	var list []string
	for i := range len(s) + 1 {
		if i < len(s) {
			list = append(list, s[:i]+s[i+1:])
		}
		for b := range 256 {
			one := string([]byte{byte(b)})
			list = append(list, s[:i]+one+s[i:])
			if i < len(s) {
				list = append(list, s[:i]+one+s[i+1:])
			}
		}
	}
	return list
}

func TestReadTermsOfNearTexts(t *testing.T) {
	for _, s := range []string{"[2; 1, 4, 3]", "[-3; 1, 2]", "[0]", "[-1]", "[10; 10]", "[1000000000; 1000000000]", "[-1000000000]", "[]"} {
		for _, near := range nearTexts(s) {
			want, fine := readByRule(near)
			if got, ok := impl.ReadTerms(near); !slices.Equal(got, want) || ok != fine {
				t.Fatalf("ReadTerms(%q) = %v, %v, want %v, %v", near, got, ok, want, fine)
			}
		}
	}
}

func TestReadTermsRefuses(t *testing.T) {
	bad := []string{
		"", "[", "]", "[]", "][", "[;]", "[; ]", "[1; ]", "[; 1]", "[1;1]", "[1;  1]", "[1; 1,1]", "[1; 1, ]", "[1, 1]", "[1; 1; 1]",
		"[1; 1 , 1]", "[ 1]", "[1 ]", "[1;\t1]", "1; 1", "(1; 1)", "[1; 1", "1; 1]", "[[1; 1]]", "[1; 1] ", " [1; 1]", "[1; 1]\n",
		"[-0]", "[+1]", "[01]", "[1; 01]", "[1; +1]", "[1; -1]", "[1; 0]", "[1; -0]", "[1; 1, 0]", "[1.5]", "[a]", "[1; a]", "[1; (1, 2)]",
		"[1000000001]", "[-1000000001]", "[1; 1000000001]", "[1; 1, 1000000001]", "[18446744073709551617]", "[1; 18446744073709551617]",
		"[1000000000000000000]", "[-9223372036854775808]", "[1; 9223372036854775807]", "[\xff]", "[１]", "[1; ２]",
		"[0; " + strings.Repeat("1, ", 59) + "1]", "[" + strings.Repeat("1; ", 1<<14) + "1]", "[1; " + strings.Repeat("1, ", 1<<14) + "1]",
		"[" + strings.Repeat("1", 1<<16) + "]", strings.Repeat("[", 1<<16), "[1; " + strings.Repeat(", ", 1<<16) + "]",
	}
	for _, s := range bad {
		if list, ok := impl.ReadTerms(s); len(list) != 0 || ok {
			t.Errorf("ReadTerms(%.60q) = %v, %v", s, list, ok)
		}
	}
}
