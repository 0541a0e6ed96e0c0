package impl

import (
	"strconv"
	"strings"
)

// Codes that functions return.
const (
	OK = iota
	ErrInvalid
	ErrRange
	ErrNotFound
	ErrExists
	ErrFull
	ErrState
	ErrSyntax
	ErrFormat
	ErrClash
	ErrOpen
)

// MaxName is the greatest number of bytes of a name.
const MaxName = 12

// maxDigits is the greatest number of digits of a number that is read; each such number is an int64.
const maxDigits = 18

// codeNames holds the name of each code at the index that is the code.
var codeNames = [...]string{
	"ok", "invalid", "range", "not-found", "exists", "full", "state", "syntax", "format", "clash", "undecided",
}

// CodeName returns the name of a code.
func CodeName(code int64) string {
	if code < OK || code > ErrOpen {
		return ""
	}
	return codeNames[code]
}

// IsName reports whether s is a name.
func IsName(s string) bool {
	if len(s) < 1 || len(s) > MaxName {
		return false
	}
	for i, r := range s {
		if !isSmallLetter(r) && (i == 0 || !isDigit(r) && r != '-') {
			return false
		}
	}
	return true
}

func isSmallLetter(r rune) bool {
	return 'a' <= r && r <= 'z'
}

func isDigit(r rune) bool {
	return '0' <= r && r <= '9'
}

// Decimal returns the decimal form of a number.
func Decimal(n int64) string {
	return strconv.FormatInt(n, 10)
}

// ReadDecimal returns the number with a decimal form.
func ReadDecimal(s string) (int64, bool) {
	if len(strings.TrimPrefix(s, "-")) > maxDigits {
		return 0, false
	}
	n, err := strconv.ParseInt(s, 10, 64)
	// ParseInt also takes a plus sign, leading zeros and -0, none of which Decimal writes.
	if err != nil || Decimal(n) != s {
		return 0, false
	}
	return n, true
}

// SplitWords returns the parts of a text without blanks.
func SplitWords(s string) []string {
	var words []string
	var word strings.Builder
	// Bytes are copied, not runes: a part keeps bytes that are no UTF-8.
	for i := range len(s) {
		if s[i] != ' ' {
			word.WriteByte(s[i])
		} else if word.Len() > 0 {
			words = append(words, word.String())
			word.Reset()
		}
	}
	if word.Len() > 0 {
		words = append(words, word.String())
	}
	return words
}
