package tests

import (
	"fmt"
	"math"
	"math/big"
	"slices"
	"strings"
	"testing"

	"loop.example/g01007/impl"
)

// A call is a function with its arguments; it returns its results as a text.
type call struct {
	run       func() string
	name      string
	arguments []any
}

func callOf(run func() string, name string, arguments ...any) call {
	return call{run, name, arguments}
}

func (c call) title() string {
	return fmt.Sprintf("%s(%q)", c.name, fmt.Sprint(c.arguments...))
}

var texts = []string{
	"", " ", "-", "/", "a", "pell-3", "abcdefghijkl", "abcdefghijklm", "0", "-0", "-12", "007", "999999999999999999",
	"1000000000000000000", "-9223372036854775808", "1/2", "-5/3", "4/2", "1/0", "1/2/3", "  a  b ", "\xff\x00 \xc3",
	"é\u0120", strings.Repeat("9", 1<<12), strings.Repeat("a b ", 1<<10), "[2; 1, 4, 3]", "[-1]", "[1; 0]", "[; ]",
	"[1; " + strings.Repeat("1, ", 1<<10) + "1]", "1 +3 -2", "-1 -1", "1 +", "1 +0", "1" + strings.Repeat(" -2", 1<<10),
	"top", "L2 R1", "R1000000000", "R0", "R1 R2", "r1", "L1  R1", "R1" + strings.Repeat(" L1 R1", 1<<10),
	"(1+r5)/2", "(-1+r5)/-2", "(0+r4)/1", "(1+r5)/0", "(+r)/", "(9223372036854775807+r2)/1", "(1+r5" + strings.Repeat(")/2", 1<<10),
}

func callsOfBasics() []call {
	var list []call
	for _, n := range wide {
		list = append(list,
			callOf(func() string { return fmt.Sprint(impl.CodeName(n)) }, "CodeName", n),
			callOf(func() string { return fmt.Sprint(impl.Decimal(n)) }, "Decimal", n))
	}
	for _, s := range texts {
		list = append(list,
			callOf(func() string { return fmt.Sprint(impl.IsName(s)) }, "IsName", s),
			callOf(func() string { return fmt.Sprint(impl.ReadDecimal(s)) }, "ReadDecimal", s),
			callOf(func() string { return fmt.Sprintf("%q", impl.SplitWords(s)) }, "SplitWords", s),
			callOf(func() string { return fmt.Sprint(impl.ReadFraction(s)) }, "ReadFraction", s),
			callOf(func() string { return fmt.Sprint(impl.ReadTerms(s)) }, "ReadTerms", s),
			callOf(func() string { return fmt.Sprint(impl.ReadSigned(s)) }, "ReadSigned", s),
			callOf(func() string { return fmt.Sprint(impl.ReadPath(s)) }, "ReadPath", s),
			callOf(func() string { return fmt.Sprint(impl.ReadSurd(s)) }, "ReadSurd", s))
	}
	return list
}

func callsOfFractions() []call {
	var list []call
	for _, f := range wideFractions() {
		list = append(list,
			callOf(func() string { return fmt.Sprint(impl.ValidFraction(f)) }, "ValidFraction", f),
			callOf(func() string { return fmt.Sprint(impl.MakeFraction(f.Num, f.Den)) }, "MakeFraction", f),
			callOf(func() string { return fmt.Sprint(impl.FloorOf(f)) }, "FloorOf", f),
			callOf(func() string { return fmt.Sprint(impl.FractionText(f)) }, "FractionText", f))
	}
	pairs := append(plainFractions()[:20], frac(0, 0), frac(0, 1), frac(1, 0), frac(2, 4), frac(1, -2), frac(-1, 1e9))
	for _, n := range wide {
		pairs = append(pairs, frac(n, 1), frac(1, n), frac(n, n))
	}
	for _, a := range pairs {
		for _, b := range pairs {
			for _, o := range operations() {
				list = append(list, callOf(func() string { return fmt.Sprint(o.run(a, b)) }, o.name, a, b))
			}
			list = append(list,
				callOf(func() string { return fmt.Sprint(impl.CompareFractions(a, b)) }, "CompareFractions", a, b),
				callOf(func() string { return fmt.Sprint(impl.AreNeighbours(a, b)) }, "AreNeighbours", a, b))
		}
	}
	return list
}

// listFunctions are the functions of one list of numbers; each returns its results as a text.
func listFunctions() map[string]func(list []int64) string {
	functions := map[string]func(list []int64) string{
		"ValidTerms":    func(list []int64) string { return fmt.Sprint(impl.ValidTerms(list)) },
		"ValueOfTerms":  func(list []int64) string { return fmt.Sprint(impl.ValueOfTerms(list)) },
		"ConvergentsOf": func(list []int64) string { return fmt.Sprint(impl.ConvergentsOf(list)) },
		"OtherForm":     func(list []int64) string { return fmt.Sprint(impl.OtherForm(list)) },
		"ContinuantOf":  func(list []int64) string { return fmt.Sprint(impl.ContinuantOf(list)) },
		"SumOfTerms":    func(list []int64) string { return fmt.Sprint(impl.SumOfTerms(list)) },
		"TermsText":     func(list []int64) string { return impl.TermsText(list) },
	}
	for _, kind := range someKinds() {
		functions["SignedFromTerms "+fmt.Sprint(kind)] = func(list []int64) string {
			return fmt.Sprint(impl.SignedFromTerms(list, kind))
		}
	}
	return functions
}

// listPairFunctions are the functions of two lists of numbers.
func listPairFunctions() map[string]func(a, b []int64) string {
	return map[string]func(a, b []int64) string{
		"CompareTerms": func(a, b []int64) string { return fmt.Sprint(impl.CompareTerms(a, b)) },
		"CommonTerms":  func(a, b []int64) string { return fmt.Sprint(impl.CommonTerms(a, b)) },
	}
}

// someLists are terms of all kinds, and lists that are not terms.
func someLists() [][]int64 {
	lists := slices.Concat(smallTerms(3), longTerms()[:60], mixedTerms(30), noTerms()[:40])
	for _, n := range wide {
		lists = append(lists, []int64{n}, []int64{1, n}, []int64{n, n, n}, repeated(60, n), repeated(200, n))
	}
	return lists
}

func callsOfExpansions() []call {
	var list []call
	for _, f := range wideFractions() {
		list = append(list, callOf(func() string { return fmt.Sprint(impl.ExpandFraction(f)) }, "ExpandFraction", f))
	}
	lists := someLists()
	for _, a := range lists {
		for name, run := range listFunctions() {
			list = append(list, callOf(func() string { return run(a) }, name, a))
		}
		for _, b := range lists {
			for name, run := range listPairFunctions() {
				list = append(list, callOf(func() string { return run(a, b) }, name, a, b))
			}
		}
	}
	return list
}

// signedFunctions are the functions of one list of terms with signs; each returns its results as a text.
func signedFunctions() map[string]func(list []impl.SignedTerm) string {
	functions := map[string]func(list []impl.SignedTerm) string{
		"ValidSigned":       func(list []impl.SignedTerm) string { return fmt.Sprint(impl.ValidSigned(list)) },
		"ValueOfSigned":     func(list []impl.SignedTerm) string { return fmt.Sprint(impl.ValueOfSigned(list)) },
		"SignedConvergents": func(list []impl.SignedTerm) string { return fmt.Sprint(impl.SignedConvergents(list)) },
		"TermsFromSigned":   func(list []impl.SignedTerm) string { return fmt.Sprint(impl.TermsFromSigned(list)) },
		"SignedText":        func(list []impl.SignedTerm) string { return impl.SignedText(list) },
	}
	for _, kind := range someKinds() {
		functions["KindOfSigned "+fmt.Sprint(kind)] = func(list []impl.SignedTerm) string {
			return fmt.Sprint(impl.KindOfSigned(list, kind))
		}
	}
	return functions
}

// signedPairFunctions are the functions of two lists of terms with signs.
func signedPairFunctions() map[string]func(a, b []impl.SignedTerm) string {
	return map[string]func(a, b []impl.SignedTerm) string{
		"SameSigned": func(a, b []impl.SignedTerm) string { return fmt.Sprint(impl.SameSigned(a, b)) },
	}
}

// someKinds are all kinds, and numbers that are none.
func someKinds() []int64 {
	return slices.Concat(kinds, noKinds)
}

// someSigned are terms with signs of all kinds, and lists that are not terms with signs.
func someSigned() [][]impl.SignedTerm {
	lists := slices.Concat(smallSigned(3), longSigned()[:200], noSigned()[:200])
	for _, n := range wide {
		lists = append(lists, withSigns([]int64{n}, 0), withSigns([]int64{1, n, n}, 2), withSigns(repeated(61, n), 0))
		for _, m := range wide {
			lists = append(lists, []impl.SignedTerm{{Sign: n, Term: m}}, []impl.SignedTerm{{Sign: 1, Term: 2}, {Sign: n, Term: m}})
		}
	}
	return lists
}

func callsOfSigned() []call {
	var list []call
	for _, n := range slices.Concat(wide, someKinds()) {
		list = append(list, callOf(func() string { return impl.KindName(n) }, "KindName", n))
	}
	for _, f := range slices.Concat(wideFractions(), manyFractions()) {
		list = append(list, callOf(func() string { return fmt.Sprint(impl.SignedLengths(f)) }, "SignedLengths", f))
		for _, kind := range someKinds() {
			list = append(list, callOf(func() string { return fmt.Sprint(impl.ExpandSigned(f, kind)) }, "ExpandSigned", f, kind))
		}
	}
	lists := someSigned()
	for _, a := range lists {
		for name, run := range signedFunctions() {
			list = append(list, callOf(func() string { return run(a) }, name, a))
		}
		for _, b := range lists[:60] {
			for name, run := range signedPairFunctions() {
				list = append(list, callOf(func() string { return run(a, b) }, name, a, b))
			}
		}
	}
	return list
}

// pathFunctions are the functions of the runs of a path; each returns its results as a text.
func pathFunctions() map[string]func(runs []int64) string {
	return map[string]func(runs []int64) string{
		"ValidPath":      func(runs []int64) string { return fmt.Sprint(impl.ValidPath(runs)) },
		"FractionAtPath": func(runs []int64) string { return fmt.Sprint(impl.FractionAtPath(runs)) },
		"PathText":       func(runs []int64) string { return impl.PathText(runs) },
	}
}

// somePaths are paths of all kinds, and lists that are not paths.
func somePaths() [][]int64 {
	lists := slices.Concat(smallPaths(3), longPaths(), noPaths()[:200])
	for _, n := range wide {
		lists = append(lists, []int64{n}, []int64{0, n}, []int64{n, 1}, []int64{n, n, n}, repeated(60, n), repeated(60, 0, n), repeated(200, n))
	}
	return lists
}

// placeFunctions are the functions of a fraction in the tree.
func placeFunctions() map[string]func(f impl.Fraction) string {
	return map[string]func(f impl.Fraction) string{
		"PathTo":         func(f impl.Fraction) string { return fmt.Sprint(impl.PathTo(f)) },
		"LevelOf":        func(f impl.Fraction) string { return fmt.Sprint(impl.LevelOf(f)) },
		"ParentFraction": func(f impl.Fraction) string { return fmt.Sprint(impl.ParentFraction(f)) },
		"ChildrenOf":     func(f impl.Fraction) string { return fmt.Sprint(impl.ChildrenOf(f)) },
		"BoundsOf":       func(f impl.Fraction) string { return fmt.Sprint(impl.BoundsOf(f)) },
	}
}

// placePairFunctions are the functions of two fractions in the tree.
func placePairFunctions() map[string]func(a, b impl.Fraction) string {
	return map[string]func(a, b impl.Fraction) string{
		"CommonAncestor":  func(a, b impl.Fraction) string { return fmt.Sprint(impl.CommonAncestor(a, b)) },
		"IsAncestor":      func(a, b impl.Fraction) string { return fmt.Sprint(impl.IsAncestor(a, b)) },
		"SimplestBetween": func(a, b impl.Fraction) string { return fmt.Sprint(impl.SimplestBetween(a, b)) },
	}
}

func callsOfTree() []call {
	var list []call
	for _, n := range slices.Concat(wide, []int64{5, 6, 7, 8}) {
		list = append(list, callOf(func() string { return fmt.Sprint(impl.RowOfTree(n)) }, "RowOfTree", n))
	}
	for _, runs := range somePaths() {
		for name, run := range pathFunctions() {
			list = append(list, callOf(func() string { return run(runs) }, name, runs))
		}
	}
	fractions := slices.Concat(wideFractions(), positiveFractions())
	for i, a := range fractions {
		for name, run := range placeFunctions() {
			list = append(list, callOf(func() string { return run(a) }, name, a))
		}
		for _, b := range fractions[i%40:][:200] {
			for name, run := range placePairFunctions() {
				list = append(list, callOf(func() string { return run(a, b) }, name, a, b))
			}
		}
	}
	return list
}

// orderFunctions are the functions of the order of a Farey sequence; each returns its results as a text.
func orderFunctions() map[string]func(order int64) string {
	return map[string]func(order int64) string{
		"TotientOf":     func(order int64) string { return fmt.Sprint(impl.TotientOf(order)) },
		"FareyCount":    func(order int64) string { return fmt.Sprint(impl.FareyCount(order)) },
		"FareySequence": func(order int64) string { return fmt.Sprint(impl.FareySequence(order)) },
		"FareyLines":    func(order int64) string { return fmt.Sprint(impl.FareyLines(order)) },
	}
}

// elementFunctions are the functions of an order and a fraction.
func elementFunctions() map[string]func(order int64, f impl.Fraction) string {
	return map[string]func(order int64, f impl.Fraction) string{
		"NextFarey":       func(order int64, f impl.Fraction) string { return fmt.Sprint(impl.NextFarey(order, f)) },
		"BeforeFarey":     func(order int64, f impl.Fraction) string { return fmt.Sprint(impl.BeforeFarey(order, f)) },
		"FareyRank":       func(order int64, f impl.Fraction) string { return fmt.Sprint(impl.FareyRank(order, f)) },
		"TouchingCircles": func(order int64, f impl.Fraction) string { return fmt.Sprint(impl.TouchingCircles(order, f)) },
	}
}

// someOrders are numbers around each limit of an order, and the numbers wide.
func someOrders() []int64 {
	return slices.Concat(wide, []int64{5, 39, 40, 41, 999, 1000, 1001, 9999, 10000, 10001, 999999, 1000000, 1000001})
}

func callsOfFarey() []call {
	var list []call
	fractions := slices.Concat(wideFractions(), fareyPlaces())
	for i, order := range someOrders() {
		for name, run := range orderFunctions() {
			list = append(list, callOf(func() string { return run(order) }, name, order))
		}
		for _, k := range someOrders() {
			list = append(list, callOf(func() string { return fmt.Sprint(impl.FareyAt(order, k)) }, "FareyAt", order, k))
		}
		for _, f := range slices.Concat(fractions[i*20:][:200], []impl.Fraction{frac(0, 1), frac(1, 1)}) {
			for name, run := range elementFunctions() {
				list = append(list, callOf(func() string { return run(order, f) }, name, order, f))
			}
		}
	}
	for _, a := range fractions {
		list = append(list, callOf(func() string { return fmt.Sprint(impl.CircleOf(a)) }, "CircleOf", a))
		for _, b := range append(fractions[:60], a) {
			list = append(list, callOf(func() string { return fmt.Sprint(impl.CirclesTouch(a, b)) }, "CirclesTouch", a, b))
		}
	}
	return list
}

// surdFunctions are the functions of one surd; each returns its results as a text.
func surdFunctions() map[string]func(s impl.Surd) string {
	return map[string]func(s impl.Surd) string{
		"ValidSurd":   func(s impl.Surd) string { return fmt.Sprint(impl.ValidSurd(s)) },
		"FloorSurd":   func(s impl.Surd) string { return fmt.Sprint(impl.FloorSurd(s)) },
		"ConjugateOf": func(s impl.Surd) string { return fmt.Sprint(impl.ConjugateOf(s)) },
		"NextSurd":    func(s impl.Surd) string { return fmt.Sprint(impl.NextSurd(s)) },
		"IsReduced":   func(s impl.Surd) string { return fmt.Sprint(impl.IsReduced(s)) },
		"EquationOf":  func(s impl.Surd) string { return fmt.Sprint(impl.EquationOf(s)) },
		"SurdText":    func(s impl.Surd) string { return impl.SurdText(s) },
		"MakeSurd":    func(s impl.Surd) string { return fmt.Sprint(impl.MakeSurd(s.P, s.D, s.Q)) },
	}
}

// wideSurds are all triples of some numbers, most of which are not plain.
func wideSurds() []impl.Surd {
	numbers := []int64{math.MinInt64, -1e18, -1e9, -1e6 - 1, -1e6, -2, -1, 0, 1, 2, 5, 999999, 1e6, 1e6 + 1, 3037000500, 1e18, math.MaxInt64}
	var list []impl.Surd
	for _, p := range numbers {
		for _, d := range numbers {
			for _, q := range numbers {
				list = append(list, surd(p, d, q))
			}
		}
	}
	return list
}

func callsOfSurds() []call {
	var list []call
	for _, n := range slices.Concat(wide, rootedNumbers()[:100]) {
		list = append(list, callOf(func() string { return fmt.Sprint(impl.RootOf(n)) }, "RootOf", n))
	}
	surds := slices.Concat(knownSurds, noSurds(), mixedSurds(200), wideSurds())
	fractions := wideFractions()
	for i, s := range surds {
		for name, run := range surdFunctions() {
			list = append(list, callOf(func() string { return run(s) }, name, s))
		}
		for _, count := range append(slices.Clone(wide), 199, 200, 201) {
			list = append(list, callOf(func() string { return fmt.Sprint(impl.TermsOfSurd(s, count)) }, "TermsOfSurd", s, count))
		}
		for _, f := range fractions[i%1000:][:40] {
			list = append(list, callOf(func() string { return fmt.Sprint(impl.CompareSurd(s, f)) }, "CompareSurd", s, f))
		}
	}
	return list
}

// result is what a call returns, or that it panics.
func (c call) result(t *testing.T) (text string) {
	defer func() {
		if p := recover(); p != nil {
			t.Fatalf("%s panics: %v", c.title(), p)
		}
	}()
	return c.run()
}

// TestPromise1 calls each function of the chapters 1 to 7 for all kinds of arguments, and once more in the opposite
// order: no call panics, and none depends on the calls before it.
func TestPromise1(t *testing.T) {
	calls := slices.Concat(callsOfBasics(), callsOfFractions(), callsOfExpansions(), callsOfSigned(), callsOfTree(), callsOfFarey(), callsOfSurds())
	results := make([]string, len(calls))
	for i, c := range calls {
		results[i] = c.result(t)
	}
	for i, c := range slices.Backward(calls) {
		if again := c.result(t); again != results[i] {
			t.Fatalf("%s returns %s at first, and then %s", c.title(), results[i], again)
		}
	}
}

// TestPromise1NewSlices changes a returned slice: neither its argument nor a later result changes.
func TestPromise1NewSlices(t *testing.T) {
	text := " one two  three "
	first := impl.SplitWords(text)
	second := impl.SplitWords(text)
	first[0] = "other"
	_ = append(first[:1], "more", "words", "here")
	want := []string{"one", "two", "three"}
	if !slices.Equal(second, want) || !slices.Equal(impl.SplitWords(text), want) || text != " one two  three " {
		t.Errorf("a changed result changes others: %q", second)
	}
}

// withSpare is a list with unused capacity, and the whole memory that it lies in.
func withSpare[T any](list []T, spare T) (given, memory []T) {
	memory = append(slices.Clone(list), spare, spare, spare)
	return memory[:len(list)], memory
}

// keepLists calls functions of one list, and looks at the memory of the list behind a call, also behind its end.
// Lists that are equal, but nil or without unused capacity, have equal results.
func keepLists[T comparable](t *testing.T, functions map[string]func(list []T) string, lists [][]T, spare T) {
	for _, list := range lists {
		given, memory := withSpare(list, spare)
		before := slices.Clone(memory)
		for name, run := range functions {
			if text, want := run(given), run(slices.Clip(slices.Clone(list))); text != want {
				t.Fatalf("%s(%v) is %s with unused capacity and %s without it", name, list, text, want)
			}
			if !slices.Equal(memory, before) {
				t.Fatalf("%s changes its argument %v to %v", name, before, memory)
			}
		}
	}
	for name, run := range functions {
		if run(nil) != run([]T{}) {
			t.Errorf("%s takes nil for something else than an empty list", name)
		}
	}
}

// keepPairs does with functions of two lists what keepLists does with those of one list.
func keepPairs[T comparable](t *testing.T, functions map[string]func(a, b []T) string, lists [][]T, spare T) {
	for name, run := range functions {
		for _, list := range lists {
			given, memory := withSpare(list, spare)
			before := slices.Clone(memory)
			for _, other := range lists[:80] {
				second, secondMemory := withSpare(other, spare)
				secondBefore := slices.Clone(secondMemory)
				if text := run(given, second) + run(second, given); text != run(list, other)+run(other, list) {
					t.Fatalf("%s(%v, %v) depends on the unused capacity", name, list, other)
				}
				if !slices.Equal(memory, before) || !slices.Equal(secondMemory, secondBefore) {
					t.Fatalf("%s changes %v or %v", name, before, secondBefore)
				}
			}
		}
		one := []T{spare}
		if run(nil, one) != run([]T{}, one) || run(one, nil) != run(one, []T{}) || run(nil, []T{}) != run([]T{}, []T{}) {
			t.Errorf("%s takes nil for something else than an empty list", name)
		}
	}
}

func TestPromise1Lists(t *testing.T) {
	keepLists(t, listFunctions(), someLists(), 77)
	keepPairs(t, listPairFunctions(), someLists(), 77)
	keepLists(t, signedFunctions(), someSigned(), impl.SignedTerm{Sign: 1, Term: 77})
	keepPairs(t, signedPairFunctions(), someSigned(), impl.SignedTerm{Sign: 1, Term: 77})
	keepLists(t, pathFunctions(), somePaths(), 77)
}

// TestPromise1NewLists changes the returned lists of chapter 3, up to their capacity.
func TestPromise1NewLists(t *testing.T) {
	for _, list := range [][]int64{{2, 1, 4, 3}, {2, 1, 4, 2, 1}, {5}, {5, 1}, {0, 7}, repeated(60, 1)} {
		given, memory := withSpare(list, 77)
		before := slices.Clone(memory)
		value, _ := impl.ValueOfTerms(given)
		text := impl.TermsText(given)
		changes := map[string]func() string{
			"OtherForm":      func() string { return spoiled(firstOf(impl.OtherForm(given)), -9) },
			"ConvergentsOf":  func() string { return spoiled(firstOf(impl.ConvergentsOf(given)), frac(-9, 0)) },
			"ExpandFraction": func() string { return spoiled(firstOf(impl.ExpandFraction(value)), -9) },
			"ReadTerms":      func() string { terms, _ := impl.ReadTerms(text); return spoiled(terms, -9) },
		}
		for name, change := range changes {
			if first, second := change(), change(); first != second || !slices.Equal(memory, before) {
				t.Errorf("%s: a changed result %s changes %v or the next result %s", name, first, memory, second)
			}
		}
	}
}

// TestPromise1NewSigned changes the returned lists of chapter 4, up to their capacity.
func TestPromise1NewSigned(t *testing.T) {
	bad := impl.SignedTerm{Sign: -9, Term: -9}
	for _, list := range [][]impl.SignedTerm{signed(1, 3, -2), signed(5), signed(0, 2, -1, -1), withSigns(repeated(60, 1, 2), 1<<64-1)} {
		given, memory := withSpare(list, bad)
		before := slices.Clone(memory)
		value, _ := impl.ValueOfSigned(given)
		terms, _ := impl.TermsFromSigned(given)
		text := impl.SignedText(given)
		changes := map[string]func() string{
			"ExpandSigned":      func() string { return spoiled(firstOf(impl.ExpandSigned(value, impl.KindNearest)), bad) },
			"SignedConvergents": func() string { return spoiled(firstOf(impl.SignedConvergents(given)), frac(-9, 0)) },
			"SignedFromTerms":   func() string { return spoiled(firstOf(impl.SignedFromTerms(terms, impl.KindNegative)), bad) },
			"TermsFromSigned":   func() string { return spoiled(firstOf(impl.TermsFromSigned(given)), -9) },
			"SignedLengths":     func() string { return spoiled(firstOf(impl.SignedLengths(value)), -9) },
			"ReadSigned":        func() string { list, _ := impl.ReadSigned(text); return spoiled(list, bad) },
		}
		for name, change := range changes {
			if first, second := change(), change(); first != second || !slices.Equal(memory, before) {
				t.Errorf("%s: a changed result %s changes %v or the next result %s", name, first, memory, second)
			}
		}
		if again := fmt.Sprint(impl.TermsFromSigned(given)); again != fmt.Sprint(terms, impl.OK) {
			t.Errorf("a changed result changes %v to %s", terms, again)
		}
	}
}

// TestPromise1NewPaths changes the returned lists of chapter 5, up to their capacity.
func TestPromise1NewPaths(t *testing.T) {
	for _, runs := range [][]int64{{}, {0, 2, 1}, {3}, {0, 3}, {1, 3}, repeated(42, 1), repeated(43, 0, 1), {1e9 - 1}} {
		given, memory := withSpare(runs, 77)
		before := slices.Clone(memory)
		f, _ := impl.FractionAtPath(given)
		text := impl.PathText(given)
		changes := map[string]func() string{
			"PathTo":    func() string { return spoiled(firstOf(impl.PathTo(f)), -9) },
			"ReadPath":  func() string { runs, _ := impl.ReadPath(text); return spoiled(runs, -9) },
			"RowOfTree": func() string { return spoiled(firstOf(impl.RowOfTree(int64(len(runs))%11)), frac(-9, 0)) },
		}
		for name, change := range changes {
			if first, second := change(), change(); first != second || !slices.Equal(memory, before) {
				t.Errorf("%s: a changed result %s changes %v or the next result %s", name, first, memory, second)
			}
		}
		if again := outcomeOf(impl.FractionAtPath(given)); again != (outcome{f: f}) || impl.PathText(given) != text {
			t.Errorf("a changed result changes %v to %v", f, again)
		}
	}
}

// TestPromise1NewFarey changes the returned lists of chapter 6, up to their capacity.
func TestPromise1NewFarey(t *testing.T) {
	for _, order := range []int64{1, 2, 3, 8, 10} {
		changes := map[string]func() string{
			"FareySequence":   func() string { return spoiled(firstOf(impl.FareySequence(order)), frac(-9, 0)) },
			"TouchingCircles": func() string { return spoiled(firstOf(impl.TouchingCircles(order, frac(0, 1))), frac(-9, 0)) },
			"FareyLines":      func() string { return spoiled(firstOf(impl.FareyLines(order)), "other") },
		}
		for name, change := range changes {
			if first, second := change(), change(); first != second {
				t.Errorf("%s: a changed result %s changes the next result %s", name, first, second)
			}
		}
		if e := outcomeOf(impl.FareyAt(order, 1)); e != (outcome{f: frac(1, order)}) {
			t.Errorf("a changed result changes the element behind 0 of the order %d to %v", order, e)
		}
	}
}

// TestPromise1NewSurdTerms changes the returned lists of chapter 7, up to their capacity.
func TestPromise1NewSurdTerms(t *testing.T) {
	for _, s := range knownSurds {
		for _, count := range []int64{1, 2, 7, 200} {
			first := spoiled(firstOf(impl.TermsOfSurd(s, count)), -9)
			if again := fmt.Sprint(firstOf(impl.TermsOfSurd(s, count))); again != first {
				t.Errorf("a changed result %s changes the next result %s", first, again)
			}
		}
	}
}

func firstOf[T any](list []T, _ int64) []T {
	return list
}

// spoiled overwrites a list and its unused capacity, and returns what it was as a text.
func spoiled[T any](list []T, with T) string {
	text := fmt.Sprint(list)
	list = list[:cap(list)]
	for i := range list {
		list[i] = with
	}
	return text
}

// TestPromise2TakenAway adds and subtracts, and multiplies and divides.
func TestPromise2TakenAway(t *testing.T) {
	added, multiplied := 0, 0
	for _, a := range plainFractions() {
		for _, b := range plainFractions() {
			if sum, code := impl.AddFractions(a, b); code == impl.OK {
				added++
				if back := outcomeOf(impl.SubFractions(sum, b)); back != (outcome{f: a}) {
					t.Fatalf("%v + %v - %v is %v", a, b, b, back)
				}
			}
			if product, code := impl.MulFractions(a, b); code == impl.OK && b.Num != 0 {
				multiplied++
				if back := outcomeOf(impl.DivFractions(product, b)); back != (outcome{f: a}) {
					t.Fatalf("%v * %v / %v is %v", a, b, b, back)
				}
			}
		}
	}
	if added < 5000 || multiplied < 5000 {
		t.Errorf("only %d sums and %d products are plain", added, multiplied)
	}
}

// TestPromise2Mediants looks for each mediant between its fractions.
func TestPromise2Mediants(t *testing.T) {
	between := 0
	for _, a := range plainFractions() {
		for _, b := range plainFractions() {
			mid, code := impl.MediantOf(a, b)
			if code != impl.OK {
				continue
			}
			between++
			order, orderCode := impl.CompareFractions(a, b)
			low, lowCode := impl.CompareFractions(a, mid)
			high, highCode := impl.CompareFractions(mid, b)
			if low != order || high != order || orderCode != impl.OK || lowCode != impl.OK || highCode != impl.OK {
				t.Fatalf("the mediant of %v and %v is %v", a, b, mid)
			}
		}
	}
	if between < 5000 {
		t.Errorf("only %d mediants are plain", between)
	}
	mid := outcomeOf(impl.MediantOf(frac(1, 2), frac(2, 3)))
	if mid != (outcome{f: frac(3, 5)}) {
		t.Errorf("the mediant of 1/2 and 2/3 is %v", mid)
	}
	mid = outcomeOf(impl.MediantOf(frac(1, 1e9), frac(1, 999999999)))
	if mid != (outcome{code: impl.ErrFull}) {
		t.Errorf("a mediant that is not plain is told as %v", mid)
	}
}

// TestPromise2Invalid gives fractions that are not plain, in each field and at each place.
func TestPromise2Invalid(t *testing.T) {
	half := frac(1, 2)
	zero := frac(0, 1)
	for _, f := range wideFractions() {
		if plainByRule(f) {
			continue
		}
		for _, o := range operations() {
			for _, p := range [][2]impl.Fraction{{f, half}, {half, f}, {f, f}, {f, zero}, {zero, f}} {
				if got := outcomeOf(o.run(p[0], p[1])); got != (outcome{code: impl.ErrInvalid}) {
					t.Fatalf("%s(%v, %v) = %v", o.name, p[0], p[1], got)
				}
			}
		}
	}
}

// TestPromise3LeadBack expands fractions and takes the value again, and takes the value of terms and expands it.
func TestPromise3LeadBack(t *testing.T) {
	for _, f := range wideFractions() {
		list, code := impl.ExpandFraction(f)
		if !plainByRule(f) {
			if len(list) != 0 || code != impl.ErrInvalid {
				t.Fatalf("%v is no plain fraction, but has the terms %v, %d", f, list, code)
			}
			continue
		}
		if back := outcomeOf(impl.ValueOfTerms(list)); code != impl.OK || back != (outcome{f: f}) {
			t.Fatalf("the terms %v of %v have the value %v", list, f, back)
		}
		if len(list) > 1 && list[len(list)-1] == 1 {
			t.Fatalf("the terms %v of %v are not the short ones", list, f)
		}
		other, code := impl.OtherForm(list)
		if code != impl.OK {
			continue
		}
		if back := outcomeOf(impl.ValueOfTerms(other)); back.code == impl.OK && back.f != f {
			t.Fatalf("the other terms %v of %v have the value %v", other, f, back)
		}
	}
	for _, list := range allTerms() {
		value, code := impl.ValueOfTerms(list)
		if code != impl.OK {
			continue
		}
		want := shortByRule(ratOf(value))
		if back, code := impl.ExpandFraction(value); code != impl.OK || !slices.Equal(back, want) {
			t.Fatalf("the value %v of the terms %v has the terms %v", value, list, back)
		}
	}
}

// TestPromise3Ordered compares terms, and their values where these are plain; TestCompareTerms compares exact values.
func TestPromise3Ordered(t *testing.T) {
	lists := slices.Concat(smallTerms(3), longTerms(), mixedTerms(40))
	values := make([]outcome, len(lists))
	for i, list := range lists {
		values[i] = outcomeOf(impl.ValueOfTerms(list))
	}
	for i, a := range lists {
		for j, b := range lists {
			order, code := impl.CompareTerms(a, b)
			back, backCode := impl.CompareTerms(b, a)
			if code != impl.OK || backCode != impl.OK || back != -order {
				t.Fatalf("%v to %v are compared as %d, and in the other order as %d", a, b, order, back)
			}
			x, y := values[i], values[j]
			if x.code != impl.OK || y.code != impl.OK {
				continue
			}
			if want, _ := impl.CompareFractions(x.f, y.f); order != want {
				t.Fatalf("%v to %v are compared as %d, but %v to %v as %d", a, b, order, x.f, y.f, want)
			}
		}
	}
	cases := []struct {
		a, b []int64
		want int64
	}{
		{[]int64{2, 1, 4, 3}, []int64{2, 1, 5}, -1},
		{[]int64{2, 1, 4, 3}, []int64{2, 1, 4, 2, 1}, 0},
		{[]int64{impl.MaxNum, 1}, []int64{impl.MaxNum, 2}, 1},
		{[]int64{impl.MaxNum, 1}, []int64{impl.MaxNum}, 1},
		{[]int64{0, impl.MaxNum, 1}, []int64{0, impl.MaxNum}, -1},
		{[]int64{-impl.MaxNum, impl.MaxNum}, []int64{-impl.MaxNum}, 1},
		{[]int64{1, 1}, []int64{2}, 0},
		{repeated(60, impl.MaxNum), repeated(59, impl.MaxNum), 1},
		{repeated(59, impl.MaxNum), repeated(58, impl.MaxNum), -1},
		{append(repeated(59, impl.MaxNum), 1), repeated(59, impl.MaxNum), 1},
		{append(repeated(58, 1), 1, 1), append(repeated(58, 1), 2), 0},
		{repeated(60, 2), repeated(60, 2), 0},
	}
	for _, c := range cases {
		if order, code := impl.CompareTerms(c.a, c.b); order != c.want || code != impl.OK {
			t.Errorf("CompareTerms(%v, %v) = %d, %d, want %d", c.a, c.b, order, code, c.want)
		}
	}
}

// TestPromise3Invalid gives lists that are not terms to each function that takes terms.
func TestPromise3Invalid(t *testing.T) {
	good := []int64{1, 2}
	for _, list := range noTerms() {
		if value := outcomeOf(impl.ValueOfTerms(list)); value != (outcome{code: impl.ErrInvalid}) {
			t.Fatalf("ValueOfTerms(%v) = %v", list, value)
		}
		if all, code := impl.ConvergentsOf(list); len(all) != 0 || code != impl.ErrInvalid {
			t.Fatalf("ConvergentsOf(%v) = %v, %d", list, all, code)
		}
		if other, code := impl.OtherForm(list); len(other) != 0 || code != impl.ErrInvalid {
			t.Fatalf("OtherForm(%v) = %v, %d", list, other, code)
		}
		if sum, code := impl.SumOfTerms(list); sum != 0 || code != impl.ErrInvalid {
			t.Fatalf("SumOfTerms(%v) = %d, %d", list, sum, code)
		}
		if text := impl.TermsText(list); text != "" {
			t.Fatalf("TermsText(%v) = %q", list, text)
		}
		for _, pair := range [][2][]int64{{list, good}, {good, list}, {list, list}} {
			if order, code := impl.CompareTerms(pair[0], pair[1]); order != 0 || code != impl.ErrInvalid {
				t.Fatalf("CompareTerms(%v, %v) = %d, %d", pair[0], pair[1], order, code)
			}
		}
	}
}

// TestPromise4Values expands fractions by each kind and takes the value again, by the function and exactly.
// Where a convergent on the way is not plain, only the exact value is left.
func TestPromise4Values(t *testing.T) {
	count := map[int64]int{}
	full := 0
	for _, f := range slices.Concat(wideFractions(), manyFractions()) {
		for _, kind := range kinds {
			list, code := impl.ExpandSigned(f, kind)
			if code != impl.OK {
				if len(list) != 0 {
					t.Fatalf("%v has the terms %v by the kind %d together with the code %d", f, list, kind, code)
				}
				continue
			}
			if exact, fine := valueWithSigns(list); !fine || exact.Cmp(ratOf(f)) != 0 {
				t.Fatalf("the terms %v of %v by the kind %d have the exact value %v", list, f, kind, exact)
			}
			if _, code := convergentsWithSigns(list); code == impl.ErrFull {
				full++
				if back := outcomeOf(impl.ValueOfSigned(list)); back != (outcome{code: impl.ErrFull}) {
					t.Fatalf("the terms %v of %v by the kind %d have the value %v", list, f, kind, back)
				}
				continue
			}
			count[kind]++
			if back := outcomeOf(impl.ValueOfSigned(list)); back != (outcome{f: f}) {
				t.Fatalf("the terms %v of %v by the kind %d have the value %v", list, f, kind, back)
			}
			if is, code := impl.KindOfSigned(list, kind); !is || code != impl.OK {
				t.Fatalf("the terms %v of %v are not of their kind %d: %d", list, f, kind, code)
			}
			if terms, code := impl.TermsFromSigned(list); code != impl.OK || !slices.Equal(terms, shortByRule(ratOf(f))) {
				t.Fatalf("the terms %v of %v by the kind %d have the terms %v, %d without signs", list, f, kind, terms, code)
			}
		}
	}
	for _, kind := range kinds {
		if count[kind] < 500 {
			t.Errorf("only %d expansions of the kind %d were looked at", count[kind], kind)
		}
	}
	if full < 3 || full > 50 {
		t.Errorf("%d expansions have a convergent that is not plain", full)
	}
}

// TestPromise4Terms looks at the terms of a kind one by one: those of KindEven are even, those of KindOdd odd,
// those of KindNearest leave a rest of at most 1/2, and those of KindNegative have no Sign 1 behind the first one.
func TestPromise4Terms(t *testing.T) {
	for _, f := range manyFractions() {
		for _, kind := range kinds {
			list, code := impl.ExpandSigned(f, kind)
			if code != impl.OK {
				continue
			}
			for i, e := range list {
				fine := true
				switch kind {
				case impl.KindNearest:
					fine = i == 0 || e.Term >= 2
				case impl.KindEven:
					fine = e.Term%2 == 0
				case impl.KindOdd:
					fine = e.Term%2 != 0
				case impl.KindNegative:
					fine = i == 0 || e.Sign == -1 && e.Term >= 2
				}
				if !fine {
					t.Fatalf("%v has the terms %v by the kind %d", f, list, kind)
				}
			}
		}
	}
}

// TestPromise4ExactValues compares values with those in the words of the document, where these have no 0 below a line.
func TestPromise4ExactValues(t *testing.T) {
	plain, none := 0, 0
	for _, list := range allSigned() {
		got := outcomeOf(impl.ValueOfSigned(list))
		exact, fine := valueWithSigns(list)
		if !fine {
			none++
			continue
		}
		if got.code != impl.OK {
			continue
		}
		plain++
		if ratOf(got.f).Cmp(exact) != 0 {
			t.Fatalf("the terms %v have the value %v, want %v", list, got.f, exact)
		}
	}
	if plain < 500 || none < 50 {
		t.Errorf("only %d plain values and %d without one were looked at", plain, none)
	}
}

// TestPromise4Invalid gives lists that are not terms with signs, and fractions that are not plain.
func TestPromise4Invalid(t *testing.T) {
	for _, list := range noSigned() {
		if value := outcomeOf(impl.ValueOfSigned(list)); value != (outcome{code: impl.ErrInvalid}) {
			t.Fatalf("ValueOfSigned(%v) = %v", list, value)
		}
		if all, code := impl.SignedConvergents(list); len(all) != 0 || code != impl.ErrInvalid {
			t.Fatalf("SignedConvergents(%v) = %v, %d", list, all, code)
		}
		if terms, code := impl.TermsFromSigned(list); len(terms) != 0 || code != impl.ErrInvalid {
			t.Fatalf("TermsFromSigned(%v) = %v, %d", list, terms, code)
		}
		for _, kind := range []int64{impl.KindOdd, 0} {
			if is, code := impl.KindOfSigned(list, kind); is || code != impl.ErrInvalid {
				t.Fatalf("KindOfSigned(%v, %d) = %v, %d", list, kind, is, code)
			}
		}
	}
	for _, f := range wideFractions() {
		if plainByRule(f) {
			continue
		}
		for _, kind := range someKinds() {
			if list, code := impl.ExpandSigned(f, kind); len(list) != 0 || code != impl.ErrInvalid {
				t.Fatalf("ExpandSigned(%v, %d) = %v, %d", f, kind, list, code)
			}
		}
		if lengths, code := impl.SignedLengths(f); len(lengths) != 0 || code != impl.ErrInvalid {
			t.Fatalf("SignedLengths(%v) = %v, %d", f, lengths, code)
		}
	}
	for _, terms := range noTerms() {
		for _, kind := range []int64{impl.KindEven, 5} {
			if list, code := impl.SignedFromTerms(terms, kind); len(list) != 0 || code != impl.ErrInvalid {
				t.Fatalf("SignedFromTerms(%v, %d) = %v, %d", terms, kind, list, code)
			}
		}
	}
}

// simplestByRule is the topmost fraction of the tree that is greater than a and less than b: from the top on, runs of
// as many steps at once as lead to no fraction behind the bound. All numbers are exact.
func simplestByRule(a, b *big.Rat) *big.Rat {
	p, q, r, s := big.NewInt(0), big.NewInt(1), big.NewInt(1), big.NewInt(0)
	times := func(x, y *big.Int) *big.Int { return new(big.Int).Mul(x, y) }
	minus := func(x, y *big.Int) *big.Int { return new(big.Int).Sub(x, y) }
	plus := func(x, y *big.Int) *big.Int { return new(big.Int).Add(x, y) }
	for {
		middle := new(big.Rat).SetFrac(plus(p, r), plus(q, s))
		switch {
		case middle.Cmp(a) <= 0:
			steps := new(big.Int).Div(minus(times(a.Num(), q), times(p, a.Denom())), minus(times(r, a.Denom()), times(a.Num(), s)))
			p, q = plus(p, times(steps, r)), plus(q, times(steps, s))
		case middle.Cmp(b) >= 0:
			steps := new(big.Int).Div(minus(times(r, b.Denom()), times(b.Num(), s)), minus(times(b.Num(), q), times(p, b.Denom())))
			r, s = plus(r, times(steps, p)), plus(s, times(steps, q))
		default:
			return middle
		}
	}
}

// tried is the fraction between a and b with the least Den, and of several with the least Num, found by trying each Den.
func tried(a, b impl.Fraction) impl.Fraction {
	for den := int64(1); ; den++ {
		num := new(big.Rat).Mul(ratOf(a), big.NewRat(den, 1))
		least := num.Add(floorByRule(num), big.NewRat(1, 1)).Num().Int64()
		if big.NewRat(least, den).Cmp(ratOf(b)) < 0 {
			return frac(least, den)
		}
	}
}

// TestPromise5Tried compares simplest fractions with those that are found by trying each denominator.
func TestPromise5Tried(t *testing.T) {
	var list []impl.Fraction
	for den := int64(1); den <= 13; den++ {
		for num := int64(0); num <= 3*den; num++ {
			list = append(list, frac(num, den))
		}
	}
	list = slices.DeleteFunc(list, func(f impl.Fraction) bool { return !plainByRule(f) })
	list = append(list, frac(1, 100), frac(1, 99), frac(99, 100), frac(100, 99), frac(100, 1), frac(201, 2), frac(1e9, 1), frac(311, 99), frac(355, 113))
	for _, a := range list {
		for _, b := range list {
			want := outcome{code: impl.ErrState}
			if ratOf(a).Cmp(ratOf(b)) < 0 {
				want = outcome{f: tried(a, b)}
			}
			if got := outcomeOf(impl.SimplestBetween(a, b)); got != want {
				t.Fatalf("SimplestBetween(%v, %v) = %v, want %v", a, b, got, want)
			}
		}
	}
}

// TestPromise5Between takes bounds of all sizes. A fraction between the bounds of another one in the tree stands below
// it, and so has no lesser denominator: none between a and b has if a and b do not lie outside these bounds.
func TestPromise5Between(t *testing.T) {
	list := slices.Concat(positiveFractions(), []impl.Fraction{frac(0, 1)})
	list = append(list, list[:40]...)
	count := map[int64]int{}
	for i, a := range list {
		for j, b := range list {
			got := outcomeOf(impl.SimplestBetween(a, b))
			if ratOf(a).Cmp(ratOf(b)) >= 0 {
				if got != (outcome{code: impl.ErrState}) {
					t.Fatalf("SimplestBetween(%v, %v) = %v", a, b, got)
				}
				continue
			}
			count[got.code]++
			if i%8 == 0 || j%8 == 0 || got.code != impl.OK {
				if want := plainOrFull(simplestByRule(ratOf(a), ratOf(b))); got != want {
					t.Fatalf("SimplestBetween(%v, %v) = %v, want %v", a, b, got, want)
				}
			}
			if got.code != impl.OK {
				continue
			}
			if !plainByRule(got.f) || ratOf(a).Cmp(ratOf(got.f)) >= 0 || ratOf(got.f).Cmp(ratOf(b)) >= 0 {
				t.Fatalf("SimplestBetween(%v, %v) = %v", a, b, got)
			}
			low := boundsByRule(got.f)
			if a.Num*low[1] < low[0]*a.Den || b.Num*low[3] > low[2]*b.Den {
				t.Fatalf("SimplestBetween(%v, %v) = %v, but one of its bounds %v is between them as well", a, b, got, low)
			}
		}
	}
	if count[impl.OK] < 10000 || count[impl.ErrFull] < 20 {
		t.Errorf("only %d simplest fractions and %d that are not plain were looked at", count[impl.OK], count[impl.ErrFull])
	}
}

func TestPromise5Known(t *testing.T) {
	full, state := outcome{code: impl.ErrFull}, outcome{code: impl.ErrState}
	cases := []struct {
		a, b impl.Fraction
		want outcome
	}{
		{frac(1, 3), frac(1, 2), outcome{f: frac(2, 5)}}, {frac(1, 2), frac(5, 2), outcome{f: frac(1, 1)}}, {frac(0, 1), frac(1, 10), outcome{f: frac(1, 11)}},
		{frac(5, 2), frac(3, 1), outcome{f: frac(8, 3)}}, {frac(0, 1), frac(1, 1), outcome{f: frac(1, 2)}}, {frac(0, 1), frac(1e9, 1), outcome{f: frac(1, 1)}},
		{frac(1, 1), frac(1e9, 1), outcome{f: frac(2, 1)}}, {frac(2, 1), frac(3, 1), outcome{f: frac(5, 2)}}, {frac(31, 10), frac(63, 20), outcome{f: frac(22, 7)}},
		{frac(999999998, 1), frac(1e9, 1), outcome{f: frac(999999999, 1)}}, {frac(999999999, 1), frac(1e9, 1), full}, {frac(0, 1), frac(1, 1e9), full},
		{frac(0, 1), frac(1, 1e9-1), outcome{f: frac(1, 1e9)}}, {frac(1, 1e9), frac(1, 1e9-1), full}, {frac(1, 1e9), frac(1, 1e9-2), outcome{f: frac(1, 1e9-1)}},
		{frac(1, 1e9), frac(1, 1), outcome{f: frac(1, 2)}}, {frac(1e9-1, 1e9), frac(1, 1), full}, {frac(1, 1), frac(1e9, 1e9-1), full},
		{frac(1e9-1, 1e9), frac(1e9, 1e9-1), outcome{f: frac(1, 1)}}, {frac(1e9-2, 1e9-1), frac(1e9-1, 1e9), full}, {frac(499999999, 1), frac(5e8, 1), outcome{f: frac(999999999, 2)}},
		{frac(5e8, 1), frac(500000001, 1), full}, {frac(267914296, 433494437), frac(433494437, 701408733), full}, {frac(433494437, 701408733), frac(267914296, 433494437), state},
		{frac(0, 1), frac(0, 1), state}, {frac(2, 5), frac(2, 5), state}, {frac(1, 2), frac(1, 3), state}, {frac(1, 1), frac(0, 1), state}, {frac(1e9, 1), frac(999999999, 1), state},
		{frac(1e9, 1), frac(1e9, 1), state}, {frac(1, 1e9), frac(0, 1), state},
	}
	for _, c := range cases {
		if got := outcomeOf(impl.SimplestBetween(c.a, c.b)); got != c.want {
			t.Errorf("SimplestBetween(%v, %v) = %v, want %v", c.a, c.b, got, c.want)
		}
	}
}

// TestPromise5Invalid gives bounds that are not plain, then negative ones, and then both in the wrong order.
func TestPromise5Invalid(t *testing.T) {
	others := []impl.Fraction{frac(0, 1), frac(1, 2), frac(1e9, 1), frac(-1, 2), frac(-1e9, 1), frac(2, 4), frac(1, 0)}
	for _, f := range wideFractions() {
		for _, other := range others {
			want := int64(impl.OK)
			switch {
			case !plainByRule(f) || !plainByRule(other):
				want = impl.ErrInvalid
			case f.Num < 0 || other.Num < 0:
				want = impl.ErrRange
			default:
				continue
			}
			for _, pair := range [][2]impl.Fraction{{f, other}, {other, f}} {
				if got := outcomeOf(impl.SimplestBetween(pair[0], pair[1])); got != (outcome{code: want}) {
					t.Fatalf("SimplestBetween(%v, %v) = %v, want %d", pair[0], pair[1], got, want)
				}
			}
		}
		if plainByRule(f) && f.Num >= 0 {
			if got := outcomeOf(impl.SimplestBetween(f, f)); got != (outcome{code: impl.ErrState}) {
				t.Fatalf("SimplestBetween(%v, %v) = %v", f, f, got)
			}
		}
	}
}

// followAsNeighbours looks at elements of a Farey sequence that follow one another.
func followAsNeighbours(t *testing.T, order int64, low, high impl.Fraction) {
	t.Helper()
	if low.Num*high.Den-high.Num*low.Den != -1 || !impl.AreNeighbours(low, high) {
		t.Fatalf("%v and %v follow one another in the order %d, but are no neighbours", low, high, order)
	}
	if touch, code := impl.CirclesTouch(low, high); !touch || code != impl.OK {
		t.Fatalf("%v and %v follow one another in the order %d, but their circles do not touch: %d", low, high, order, code)
	}
	// Otherwise, their mediant would be between them.
	if low.Den > order || high.Den > order || low.Den+high.Den <= order {
		t.Fatalf("%v and %v follow one another in the order %d", low, high, order)
	}
}

// TestPromise6Sequences walks through whole sequences, by their lists, by the numbers of their elements, and by the
// next element of each and the last one before it.
func TestPromise6Sequences(t *testing.T) {
	for order := int64(1); order <= impl.MaxOrder; order++ {
		list, code := impl.FareySequence(order)
		if code != impl.OK || len(list) < 2 || list[0] != frac(0, 1) || list[len(list)-1] != frac(1, 1) {
			t.Fatalf("FareySequence(%d) = %v, %d", order, list, code)
		}
		for i, high := range list[1:] {
			low := list[i]
			followAsNeighbours(t, order, low, high)
			if got := outcomeOf(impl.FareyAt(order, int64(i)+1)); got != (outcome{f: high}) {
				t.Fatalf("FareyAt(%d, %d) = %v, want %v", order, i+1, got, high)
			}
			if got := outcomeOf(impl.NextFarey(order, low)); got != (outcome{f: high}) {
				t.Fatalf("NextFarey(%d, %v) = %v, want %v", order, low, got, high)
			}
			if got := outcomeOf(impl.BeforeFarey(order, high)); got != (outcome{f: low}) {
				t.Fatalf("BeforeFarey(%d, %v) = %v, want %v", order, high, got, low)
			}
			touching, code := impl.TouchingCircles(order, low)
			if !slices.Contains(touching, high) || code != impl.OK {
				t.Fatalf("%v follows %v in the order %d, but the touching circles are %v, %d", high, low, order, touching, code)
			}
		}
	}
}

// TestPromise6GreatOrders walks some elements on from several places of long sequences, and back again.
func TestPromise6GreatOrders(t *testing.T) {
	for _, order := range []int64{41, 100, 997, 9999, impl.MaxFarey} {
		for _, start := range []impl.Fraction{frac(0, 1), frac(1, 3), frac(1, 2), frac(355, 1130), frac(618033989, 1e9), frac(order-2, order), frac(9990, 9991)} {
			if !plainByRule(start) {
				continue
			}
			walkFarey(t, order, start)
		}
	}
}

// walkFarey walks from a place to elements that follow one another, as far as there are some.
func walkFarey(t *testing.T, order int64, start impl.Fraction) {
	t.Helper()
	low, code := impl.NextFarey(order, start)
	for step := 0; code == impl.OK && step < 25; step++ {
		high := outcomeOf(impl.NextFarey(order, low))
		if low == frac(1, 1) {
			if high != (outcome{code: impl.ErrNotFound}) {
				t.Fatalf("NextFarey(%d, 1) = %v", order, high)
			}
			return
		}
		if high.code != impl.OK {
			t.Fatalf("NextFarey(%d, %v) = %v", order, low, high)
		}
		followAsNeighbours(t, order, low, high.f)
		if back := outcomeOf(impl.BeforeFarey(order, high.f)); back != (outcome{f: low}) {
			t.Fatalf("%v follows %v in the order %d, but behind %v", high.f, low, order, back)
		}
		low = high.f
	}
}

// TestPromise6Invalid gives orders that are none, and fractions that are not plain or have no place in a sequence.
func TestPromise6Invalid(t *testing.T) {
	for _, order := range noOrders(impl.MaxFarey) {
		if list, code := impl.FareySequence(order); len(list) != 0 || code != impl.ErrRange {
			t.Fatalf("FareySequence(%d) = %v, %d", order, list, code)
		}
		if got := outcomeOf(impl.FareyAt(order, 0)); got != (outcome{code: impl.ErrRange}) {
			t.Fatalf("FareyAt(%d, 0) = %v", order, got)
		}
		for _, f := range []impl.Fraction{frac(0, 1), frac(1, 2), frac(1, 1), frac(-1, 2), frac(3, 2)} {
			fareyErrors(t, order, f, impl.ErrRange, impl.ErrRange)
		}
		for _, f := range []impl.Fraction{frac(2, 4), frac(0, 2), frac(1, 0), frac(-2, 4), frac(6, 4), {}} {
			fareyErrors(t, order, f, impl.ErrInvalid, impl.ErrInvalid)
		}
	}
	good := frac(1, 2)
	for _, f := range wideFractions() {
		if plainByRule(f) {
			continue
		}
		fareyErrors(t, 3, f, impl.ErrInvalid, impl.ErrInvalid)
		for _, pair := range [][2]impl.Fraction{{f, good}, {good, f}, {f, f}} {
			if touch, code := impl.CirclesTouch(pair[0], pair[1]); touch || code != impl.ErrInvalid {
				t.Fatalf("CirclesTouch(%v, %v) = %v, %d", pair[0], pair[1], touch, code)
			}
		}
	}
}

// TestPromise7Floor looks for each surd between its floor and the next integer, in numbers without limits and by
// CompareSurd. Its other floors are the same one.
func TestPromise7Floor(t *testing.T) {
	compared := 0
	for _, s := range allSurds() {
		floor, code := impl.FloorSurd(s)
		if code != impl.OK || !between(floor, s, floor+1) {
			t.Fatalf("%v is not between its floor %d and the next integer: %d", s, floor, code)
		}
		if again, _, code := impl.NextSurd(s); again != floor || code != impl.OK {
			t.Fatalf("the floor of %v is %d, or %d, %d by NextSurd", s, floor, again, code)
		}
		if terms, code := impl.TermsOfSurd(s, 1); !slices.Equal(terms, []int64{floor}) || code != impl.OK {
			t.Fatalf("the floor of %v is %d, or %v, %d by TermsOfSurd", s, floor, terms, code)
		}
		if floor < -1e6 || floor >= 1e6 {
			continue
		}
		compared++
		low, lowCode := impl.CompareSurd(s, frac(floor, 1))
		high, highCode := impl.CompareSurd(s, frac(floor+1, 1))
		if low != 1 || high != -1 || lowCode != impl.OK || highCode != impl.OK {
			t.Fatalf("%v with the floor %d is compared with it as %d, %d, and with the next integer as %d, %d", s, floor, low, lowCode, high, highCode)
		}
	}
	if compared < 5000 {
		t.Errorf("only %d surds were compared", compared)
	}
}

// TestPromise7Terms looks for each surd between the value of its first terms and that of the same terms with the last
// one greater by 1: this term is the floor of a next surd.
func TestPromise7Terms(t *testing.T) {
	for _, s := range slices.Concat(knownSurds, smallSurds(), mixedSurds(200)) {
		for _, count := range []int64{2, 3, 10, 40} {
			terms, code := impl.TermsOfSurd(s, count)
			if int64(len(terms)) != count || code != impl.OK {
				t.Fatalf("TermsOfSurd(%v, %d) = %v, %d", s, count, terms, code)
			}
			side := sideByRule(s, valueByRule(terms))
			terms[count-1]++
			other := sideByRule(s, valueByRule(terms))
			// At an odd place, a greater term has a lesser value.
			if want := 1 - 2*int(1-count%2); side != want || other != -want {
				t.Fatalf("%v is not between the values of its terms %v and with the last one greater by 1", s, terms)
			}
		}
	}
}

// solves tells whether (P + r) / Q solves an equation: its multiple by the square of Q has neither a rest nor an r.
func solves(s impl.Surd, a, b, c int64) bool {
	rest := sum(product(a, s.P, s.P), product(a, s.D), product(b, s.Q, s.P), product(c, s.Q, s.Q))
	return rest.Sign() == 0 && sum(product(2, a, s.P), product(b, s.Q)).Sign() == 0
}

// TestPromise7Equation puts each surd and its conjugate into the equation, whose numbers have no common divisor.
func TestPromise7Equation(t *testing.T) {
	divided := 0
	for _, s := range allSurds() {
		a, b, c, code := impl.EquationOf(s)
		if code != impl.OK || !solves(s, a, b, c) {
			t.Fatalf("EquationOf(%v) = %d, %d, %d, %d", s, a, b, c, code)
		}
		g := new(big.Int).GCD(nil, nil, new(big.Int).Abs(big.NewInt(b)), new(big.Int).Abs(big.NewInt(c)))
		if a < 1 || g.GCD(nil, nil, g, big.NewInt(a)).Int64() != 1 {
			t.Fatalf("the equation %d, %d, %d of %v has a common divisor, or is not positive at first", a, b, c, s)
		}
		if a != s.Q && a != -s.Q {
			divided++
		}
		other, code := impl.ConjugateOf(s)
		d, e, f, otherCode := impl.EquationOf(other)
		if code != impl.OK || otherCode != impl.OK || !solves(other, a, b, c) || d != a || e != b || f != c {
			t.Fatalf("%v has the equation %d, %d, %d, and its conjugate %v has %d, %d, %d", s, a, b, c, other, d, e, f)
		}
	}
	if divided < 500 {
		t.Errorf("only %d equations had to be divided", divided)
	}
}

// TestPromise7Invalid gives surds that are not plain, and fractions that cannot be compared.
func TestPromise7Invalid(t *testing.T) {
	for _, s := range slices.Concat(noSurds(), wideSurds()) {
		if !surdByRule(s) {
			surdErrors(t, s)
		}
	}
	for _, f := range wideFractions() {
		want := int64(impl.OK)
		switch {
		case !plainByRule(f):
			want = impl.ErrInvalid
		case f.Num < -1e6 || f.Num > 1e6 || f.Den > 1e6:
			want = impl.ErrRange
		}
		for _, s := range knownSurds {
			if side, code := impl.CompareSurd(s, f); code != want || (side == 0) != (want != impl.OK) {
				t.Fatalf("CompareSurd(%v, %v) = %d, %d, want %d", s, f, side, code, want)
			}
		}
	}
}
