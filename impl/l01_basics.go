package impl

import (
	"strconv"
	"strings"
)

// Codes, in the order of codeNames.
const (
	OK = iota
	ErrInvalid
	ErrRange
	ErrNotFound
	ErrExists
	ErrFull
	ErrState
	ErrSyntax
	ErrFormat
	ErrClash
	ErrOpen
)

// MaxName is the greatest number of characters of names.
const MaxName = 12

// decimalLimit is the least number with more digits than ReadDecimal reads.
const decimalLimit = 1000000000000000000

// codeNames has the name of each code.
var codeNames = [11]string{
	"ok", "invalid", "range", "not-found", "exists", "full",
	"state", "syntax", "format", "clash", "open",
}

// CodeName returns the name of a code, and the empty string for any other number.
func CodeName(code int64) string {
	if code < 0 || code >= int64(len(codeNames)) {
		return ""
	}
	return codeNames[code]
}

// IsName reports whether s is a name: 1 to MaxName small letters, digits and hyphens, a letter first.
func IsName(s string) bool {
	if len(s) < 1 || len(s) > MaxName || !isSmallLetter(rune(s[0])) {
		return false
	}
	for _, r := range s {
		if !isSmallLetter(r) && !isDigit(r) && r != '-' {
			return false
		}
	}
	return true
}

func isSmallLetter(r rune) bool { return r >= 'a' && r <= 'z' }

func isDigit(r rune) bool { return r >= '0' && r <= '9' }

// Decimal returns the decimal form of a number.
func Decimal(n int64) string { return strconv.FormatInt(n, 10) }

// decimals returns the decimal forms of numbers, with a separator between them.
func decimals(list []int64, separator string) string {
	words := make([]string, 0, len(list))
	for _, n := range list {
		words = append(words, Decimal(n))
	}
	return strings.Join(words, separator)
}

// ReadDecimal returns the number of at most 18 digits with the decimal form s, and whether there is one.
func ReadDecimal(s string) (int64, bool) {
	n, err := strconv.ParseInt(s, 10, 64)
	if err != nil || n <= -decimalLimit || n >= decimalLimit {
		return 0, false
	}
	// ParseInt also takes a plus sign, leading zeros and "-0", which Decimal never writes.
	if Decimal(n) != s {
		return 0, false
	}
	return n, true
}

// SplitWords returns the longest parts of a text without blanks, in order.
func SplitWords(s string) []string {
	// strings.Fields would also split at tabs, newlines and other white space.
	return strings.FieldsFunc(s, isBlank)
}

func isBlank(r rune) bool { return r == ' ' }
