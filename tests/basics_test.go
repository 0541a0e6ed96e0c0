package tests

import (
	"math"
	"slices"
	"strconv"
	"strings"
	"testing"

	"loop.example/g01007/impl"
)

// wide are numbers around every limit of the chapters 1 and 2, and the ends of int64.
var wide = []int64{
	math.MinInt64, math.MinInt64 + 1, -1e18 - 1, -1e18, -1e18 + 1, -1 << 32, -2e9, -impl.MaxNum - 1, -impl.MaxNum,
	-impl.MaxNum + 1, -impl.MaxNum / 2, -46341, -12, -3, -2, -1, 0, 1, 2, 3, 4, 9, 10, 11, 46341, impl.MaxNum / 2,
	impl.MaxNum - 1, impl.MaxNum, impl.MaxNum + 1, 2e9, 1 << 32, 1<<32 + 1, 1e18 - 1, 1e18, 1e18 + 1,
	math.MaxInt64 - 1, math.MaxInt64,
}

// TestConstants looks at each code and limit by its number in the document.
func TestConstants(t *testing.T) {
	codes := []int64{
		impl.OK, impl.ErrInvalid, impl.ErrRange, impl.ErrNotFound, impl.ErrExists, impl.ErrFull,
		impl.ErrState, impl.ErrSyntax, impl.ErrFormat, impl.ErrClash, impl.ErrOpen,
	}
	for i, code := range codes {
		if code != int64(i) {
			t.Errorf("the code with the place %d is %d", i, code)
		}
	}
	if impl.MaxName != 12 || impl.MaxNum != 1000000000 {
		t.Errorf("MaxName is %d, MaxNum is %d", impl.MaxName, impl.MaxNum)
	}
}

func TestCodeName(t *testing.T) {
	names := []string{
		"ok", "invalid", "range", "not-found", "exists", "full", "state", "syntax", "format", "clash", "undecided",
	}
	for i, want := range names {
		if got := impl.CodeName(int64(i)); got != want {
			t.Errorf("CodeName(%d) = %q, want %q", i, got, want)
		}
	}
	for _, code := range slices.Concat(wide, []int64{-256, 12, 255, 256, 257, 65536}) {
		if code >= 0 && code <= 10 {
			continue
		}
		if got := impl.CodeName(code); got != "" {
			t.Errorf("CodeName(%d) = %q, want none", code, got)
		}
	}
}

// nameByRule tells what the document calls a name, byte by byte.
func nameByRule(s string) bool {
	const letters = "abcdefghijklmnopqrstuvwxyz"
	const others = "0123456789-"
	if s == "" || len(s) > 12 || strings.IndexByte(letters, s[0]) < 0 {
		return false
	}
	for i := range len(s) {
		if strings.IndexByte(letters+others, s[i]) < 0 {
			return false
		}
	}
	return true
}

func TestIsNameOfEachByte(t *testing.T) {
	for i := range 256 {
		one := string([]byte{byte(i)})
		for _, s := range []string{one, "a" + one, one + "a", "b-" + one + "7", "abcdefghijk" + one, "abcdefghijkl" + one} {
			if got, want := impl.IsName(s), nameByRule(s); got != want {
				t.Errorf("IsName(%q) = %v", s, got)
			}
		}
	}
}

func TestIsName(t *testing.T) {
	for _, s := range []string{"a", "z", "pell-3", "x-", "a--b", "z9", "abcdefghijkl", "a12345678901", "a-----------"} {
		if !impl.IsName(s) {
			t.Errorf("IsName(%q) is false", s)
		}
	}
	bad := []string{
		"", "-", "-a", "3a", "0", "A", "aB", "a b", " a", "a ", "a_b", "a.b", "a\x00", "abcdefghijklm", "é", "aé", "ａ",
		"aａ", "a١", "a\xff", "\xff", "a\u2010b", "\u0161", "a\u0161", strings.Repeat("a", 1<<16),
	}
	for _, s := range bad {
		if impl.IsName(s) {
			t.Errorf("IsName(%q) is true", s)
		}
	}
}

func TestDecimal(t *testing.T) {
	for want, n := range map[string]int64{
		"0": 0, "7": 7, "-7": -7, "10": 10, "-100": -100, "1000000000000000001": 1e18 + 1,
		"9223372036854775807": math.MaxInt64, "-9223372036854775808": math.MinInt64,
	} {
		if got := impl.Decimal(n); got != want {
			t.Errorf("Decimal(%d) = %q", n, got)
		}
	}
	for _, n := range wide {
		if got := impl.Decimal(n); got != strconv.FormatInt(n, 10) {
			t.Errorf("Decimal(%d) = %q", n, got)
		}
	}
}

func TestReadDecimalTakesWhatDecimalWrites(t *testing.T) {
	numbers := slices.Concat(wide, []int64{-999, 123456789, 1e17, -1e17})
	for n := int64(-1200); n <= 1200; n++ {
		numbers = append(numbers, n)
	}
	for _, n := range numbers {
		want, fine := n, n > -1e18 && n < 1e18
		if !fine {
			want = 0
		}
		if got, ok := impl.ReadDecimal(impl.Decimal(n)); got != want || ok != fine {
			t.Errorf("ReadDecimal(%q) = %d, %v", impl.Decimal(n), got, ok)
		}
	}
}

func TestReadDecimalRefuses(t *testing.T) {
	bad := []string{
		"", "-", "+", "+5", "-0", "00", "01", "-01", "--1", "1-", "- 1", " 1", "1 ", "1\n", "1.0", "1e3", "0x1f", "1_000",
		"a", "1a", "¹", "١", "１", "1\x00", "\xff", "1000000000000000000", "-1000000000000000000",
		"000000000000000001", "0000000000000000001", "18446744073709551617", "-18446744073709551617",
		strings.Repeat("9", 19), strings.Repeat("9", 1<<16), strings.Repeat("0", 1<<16) + "1",
	}
	for _, s := range bad {
		if n, ok := impl.ReadDecimal(s); n != 0 || ok {
			t.Errorf("ReadDecimal(%q) = %d, %v", s, n, ok)
		}
	}
	if n, ok := impl.ReadDecimal("999999999999999999"); n != 999999999999999999 || !ok {
		t.Errorf("18 digits are read as %d, %v", n, ok)
	}
	if n, ok := impl.ReadDecimal("-999999999999999999"); n != -999999999999999999 || !ok {
		t.Errorf("18 digits with a sign are read as %d, %v", n, ok)
	}
}

// wordsByRule are the parts between single blanks that are not empty.
func wordsByRule(s string) []string {
	return slices.DeleteFunc(strings.Split(s, " "), func(w string) bool { return w == "" })
}

func TestSplitWordsOfShortTexts(t *testing.T) {
	texts := []string{""}
	for range 5 {
		for _, s := range slices.Clone(texts) {
			for _, c := range []string{" ", "a", "B", "\t", "\xa0"} {
				texts = append(texts, s+c)
			}
		}
		slices.Sort(texts)
		texts = slices.Compact(texts)
	}
	for _, s := range texts {
		if got, want := impl.SplitWords(s), wordsByRule(s); !slices.Equal(got, want) {
			t.Fatalf("SplitWords(%q) = %q, want %q", s, got, want)
		}
	}
}

func TestSplitWords(t *testing.T) {
	cases := map[string][]string{
		"":                   nil,
		"   ":                nil,
		"one":                {"one"},
		"  one  two ":        {"one", "two"},
		"a\tb c\nd \r":       {"a\tb", "c\nd", "\r"},
		"a\u00a0b \u0120":    {"a\u00a0b", "\u0120"},
		"\xff \xfe\x20é":     {"\xff", "\xfe", "é"},
		"\xc3 \xe2\x82 \x00": {"\xc3", "\xe2\x82", "\x00"},
	}
	for s, want := range cases {
		if got := impl.SplitWords(s); !slices.Equal(got, want) {
			t.Errorf("SplitWords(%q) = %q, want %q", s, got, want)
		}
	}
	long := strings.Repeat("ab  ", 1<<14)
	if got := impl.SplitWords(long); len(got) != 1<<14 || got[0] != "ab" || got[1<<14-1] != "ab" {
		t.Errorf("a long text has %d words", len(got))
	}
}
