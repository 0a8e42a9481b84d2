package impl

import (
	"strconv"
	"strings"
)

const maxNameBytes = 8
const maxPadBytes = 2000

// FormatInt returns n in decimal.
func FormatInt(n int) string {
	return strconv.Itoa(n)
}

// ParseInt returns the int whose FormatInt is s.
func ParseInt(s string) (int, bool) {
	n, err := strconv.Atoi(s)
	// Atoi also accepts a plus sign, leading zeros and "-0", which FormatInt never writes.
	if err != nil || FormatInt(n) != s {
		return 0, false
	}
	return n, true
}

// IsDigits reports whether s is a nonempty run of digits.
func IsDigits(s string) bool {
	for _, r := range s {
		if !isDigit(r) {
			return false
		}
	}
	return s != ""
}

// IsName reports whether s is a short name: a small letter, then small letters or digits.
func IsName(s string) bool {
	if s == "" || len(s) > maxNameBytes {
		return false
	}
	for i, r := range s {
		if !isSmallLetter(r) && (i == 0 || !isDigit(r)) {
			return false
		}
	}
	return true
}

func isDigit(r rune) bool {
	return '0' <= r && r <= '9'
}

func isSmallLetter(r rune) bool {
	return 'a' <= r && r <= 'z'
}

// SplitAny splits s at every byte that occurs in by.
func SplitAny(s string, by string) []string {
	// Separators are bytes, not runes: one may lie inside a longer rune or be no valid UTF-8.
	cuts := bytesIn(by)
	var parts []string
	start := 0
	for i := range len(s) {
		if cuts[s[i]] {
			parts = append(parts, s[start:i])
			start = i + 1
		}
	}
	return append(parts, s[start:])
}

func bytesIn(s string) [256]bool {
	var found [256]bool
	for i := range len(s) {
		found[s[i]] = true
	}
	return found
}

// SplitLines returns the lines of s without their newlines.
func SplitLines(s string) []string {
	var lines []string
	start := 0
	// Scanning by runes is safe here: a newline byte is never a part of a longer rune.
	for i, r := range s {
		if r == '\n' {
			lines = append(lines, s[start:i])
			start = i + 1
		}
	}
	if start < len(s) {
		lines = append(lines, s[start:])
	}
	return lines
}

// Join returns the elements of l separated by by.
func Join(l []string, by string) string {
	return joinParts(by, l...)
}

// PadZeros returns s with leading zeros up to n bytes.
func PadZeros(s string, n int) string {
	if len(s) >= n || n > maxPadBytes {
		return s
	}
	return joinParts("", strings.Repeat("0", n-len(s)), s)
}

func joinParts(by string, parts ...string) string {
	return strings.Join(parts, by)
}
