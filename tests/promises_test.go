package tests

import (
	"fmt"
	"slices"
	"strings"
	"testing"

	"loop.example/g01007/impl"
)

// A call is a function with its arguments; it returns its results as a text.
type call struct {
	name string
	run  func() string
}

func callOf(run func() string, name string, arguments ...any) call {
	return call{name + fmt.Sprintf("%q", fmt.Sprint(arguments...)), run}
}

var texts = []string{
	"", " ", "-", "/", "a", "pell-3", "abcdefghijkl", "abcdefghijklm", "0", "-0", "-12", "007", "999999999999999999",
	"1000000000000000000", "-9223372036854775808", "1/2", "-5/3", "4/2", "1/0", "1/2/3", "  a  b ", "\xff\x00 \xc3",
	"é\u0120", strings.Repeat("9", 1<<12), strings.Repeat("a b ", 1<<10),
}

func callsOfBasics() []call {
	var list []call
	for _, n := range wide {
		list = append(list,
			callOf(func() string { return fmt.Sprint(impl.CodeName(n)) }, "CodeName", n),
			callOf(func() string { return fmt.Sprint(impl.Decimal(n)) }, "Decimal", n))
	}
	for _, s := range texts {
		list = append(list,
			callOf(func() string { return fmt.Sprint(impl.IsName(s)) }, "IsName", s),
			callOf(func() string { return fmt.Sprint(impl.ReadDecimal(s)) }, "ReadDecimal", s),
			callOf(func() string { return fmt.Sprintf("%q", impl.SplitWords(s)) }, "SplitWords", s),
			callOf(func() string { return fmt.Sprint(impl.ReadFraction(s)) }, "ReadFraction", s))
	}
	return list
}

func callsOfFractions() []call {
	var list []call
	for _, f := range wideFractions() {
		list = append(list,
			callOf(func() string { return fmt.Sprint(impl.ValidFraction(f)) }, "ValidFraction", f),
			callOf(func() string { return fmt.Sprint(impl.MakeFraction(f.Num, f.Den)) }, "MakeFraction", f),
			callOf(func() string { return fmt.Sprint(impl.FloorOf(f)) }, "FloorOf", f),
			callOf(func() string { return fmt.Sprint(impl.FractionText(f)) }, "FractionText", f))
	}
	pairs := append(plainFractions()[:20], frac(0, 0), frac(0, 1), frac(1, 0), frac(2, 4), frac(1, -2), frac(-1, 1e9))
	for _, n := range wide {
		pairs = append(pairs, frac(n, 1), frac(1, n), frac(n, n))
	}
	for _, a := range pairs {
		for _, b := range pairs {
			for _, o := range operations() {
				list = append(list, callOf(func() string { return fmt.Sprint(o.run(a, b)) }, o.name, a, b))
			}
			list = append(list,
				callOf(func() string { return fmt.Sprint(impl.CompareFractions(a, b)) }, "CompareFractions", a, b),
				callOf(func() string { return fmt.Sprint(impl.AreNeighbours(a, b)) }, "AreNeighbours", a, b))
		}
	}
	return list
}

// result is what a call returns, or that it panics.
func (c call) result(t *testing.T) (text string) {
	defer func() {
		if p := recover(); p != nil {
			t.Fatalf("%s panics: %v", c.name, p)
		}
	}()
	return c.run()
}

// TestPromise1 calls each function of the chapters 1 and 2 for all kinds of arguments, and once more in the opposite
// order: no call panics, and none depends on the calls before it.
func TestPromise1(t *testing.T) {
	calls := slices.Concat(callsOfBasics(), callsOfFractions())
	results := make([]string, len(calls))
	for i, c := range calls {
		results[i] = c.result(t)
	}
	for i, c := range slices.Backward(calls) {
		if again := c.result(t); again != results[i] {
			t.Fatalf("%s returns %s at first, and then %s", c.name, results[i], again)
		}
	}
}

// TestPromise1NewSlices changes a returned slice: neither its argument nor a later result changes.
func TestPromise1NewSlices(t *testing.T) {
	text := " one two  three "
	first := impl.SplitWords(text)
	second := impl.SplitWords(text)
	first[0] = "other"
	_ = append(first[:1], "more", "words", "here")
	want := []string{"one", "two", "three"}
	if !slices.Equal(second, want) || !slices.Equal(impl.SplitWords(text), want) || text != " one two  three " {
		t.Errorf("a changed result changes others: %q", second)
	}
}

// TestPromise2TakenAway adds and subtracts, and multiplies and divides.
func TestPromise2TakenAway(t *testing.T) {
	added, multiplied := 0, 0
	for _, a := range plainFractions() {
		for _, b := range plainFractions() {
			if sum, code := impl.AddFractions(a, b); code == impl.OK {
				added++
				if back := outcomeOf(impl.SubFractions(sum, b)); back != (outcome{f: a}) {
					t.Fatalf("%v + %v - %v is %v", a, b, b, back)
				}
			}
			if product, code := impl.MulFractions(a, b); code == impl.OK && b.Num != 0 {
				multiplied++
				if back := outcomeOf(impl.DivFractions(product, b)); back != (outcome{f: a}) {
					t.Fatalf("%v * %v / %v is %v", a, b, b, back)
				}
			}
		}
	}
	if added < 5000 || multiplied < 5000 {
		t.Errorf("only %d sums and %d products are plain", added, multiplied)
	}
}

// TestPromise2Mediants looks for each mediant between its fractions.
func TestPromise2Mediants(t *testing.T) {
	between := 0
	for _, a := range plainFractions() {
		for _, b := range plainFractions() {
			mid, code := impl.MediantOf(a, b)
			if code != impl.OK {
				continue
			}
			between++
			order, orderCode := impl.CompareFractions(a, b)
			low, lowCode := impl.CompareFractions(a, mid)
			high, highCode := impl.CompareFractions(mid, b)
			if low != order || high != order || orderCode != impl.OK || lowCode != impl.OK || highCode != impl.OK {
				t.Fatalf("the mediant of %v and %v is %v", a, b, mid)
			}
		}
	}
	if between < 5000 {
		t.Errorf("only %d mediants are plain", between)
	}
	mid := outcomeOf(impl.MediantOf(frac(1, 2), frac(2, 3)))
	if mid != (outcome{f: frac(3, 5)}) {
		t.Errorf("the mediant of 1/2 and 2/3 is %v", mid)
	}
	mid = outcomeOf(impl.MediantOf(frac(1, 1e9), frac(1, 999999999)))
	if mid != (outcome{code: impl.ErrFull}) {
		t.Errorf("a mediant that is not plain is told as %v", mid)
	}
}

// TestPromise2Invalid gives fractions that are not plain, in each field and at each place.
func TestPromise2Invalid(t *testing.T) {
	half := frac(1, 2)
	zero := frac(0, 1)
	for _, f := range wideFractions() {
		if plainByRule(f) {
			continue
		}
		for _, o := range operations() {
			for _, p := range [][2]impl.Fraction{{f, half}, {half, f}, {f, f}, {f, zero}, {zero, f}} {
				if got := outcomeOf(o.run(p[0], p[1])); got != (outcome{code: impl.ErrInvalid}) {
					t.Fatalf("%s(%v, %v) = %v", o.name, p[0], p[1], got)
				}
			}
		}
	}
}
