package impl

import (
	"iter"
	"strconv"
	"strings"
)

const MaxString = 4000
const MaxDecimal = 999999

// checksumModulus exceeds every byte value and has no factor in common with 41, so two strings
// of one length that differ in a single byte never have the same checksum.
const checksumModulus = 999979

const checksumMark = "#"

// FormatInt returns the decimal representation of n and true. If n is outside
// -MaxDecimal..MaxDecimal it returns the empty string and false. The representation has no
// leading zeros; a negative number starts with `-`.
func FormatInt(n int) (string, bool) {
	if n < -MaxDecimal || n > MaxDecimal {
		return "", false
	}
	return strconv.Itoa(n), true
}

// ParseInt is the inverse of FormatInt: it returns the integer n for which FormatInt(n) is s,
// and true. For any other string, including strings with leading zeros, a leading `+`, or `-0`,
// it returns 0 and false.
func ParseInt(s string) (int, bool) {
	n, err := strconv.Atoi(s)
	if err != nil {
		return 0, false
	}
	// Atoi also reads `+1`, `-0` and `01`; only the text that FormatInt writes is accepted.
	text, ok := FormatInt(n)
	if !ok || text != s {
		return 0, false
	}
	return n, true
}

// SplitString splits s, which must have at most MaxString bytes, at every occurrence of the
// single-byte separator sep, and returns the substrings between the separators in order, and
// true. The result has one element more than s has separators, so the empty string yields one
// empty element. If s is too long or sep does not consist of exactly one byte, it returns an
// empty slice and false.
func SplitString(s string, sep string) ([]string, bool) {
	if len(s) > MaxString || len(sep) != 1 {
		return []string{}, false
	}
	parts := []string{}
	for piece := range piecesBetween(s, sep[0]) {
		// A bare substring would share the memory of s.
		parts = append(parts, strings.Clone(piece))
	}
	return parts, true
}

// piecesBetween yields the substrings of s between the bytes sep, in order.
func piecesBetween(s string, sep byte) iter.Seq[string] {
	return func(yield func(string) bool) {
		rest := s
	pieces:
		for {
			for i := range len(rest) {
				if rest[i] != sep {
					continue
				}
				if !yield(rest[:i]) {
					return
				}
				rest = rest[i+1:]
				continue pieces
			}
			yield(rest)
			return
		}
	}
}

// JoinStrings is the inverse of SplitString: it returns the elements of parts concatenated with
// sep between consecutive elements, and true. It returns the empty string and false if parts is
// empty, if sep does not consist of exactly one byte, if an element contains sep, or if the
// result would have more than MaxString bytes.
func JoinStrings(parts []string, sep string) (string, bool) {
	if len(parts) == 0 || len(sep) != 1 {
		return "", false
	}
	var joined strings.Builder
	for i, part := range parts {
		if i > 0 {
			joined.WriteString(sep)
		}
		// The length comes first, so that an endless element is neither read nor copied.
		if len(part) > MaxString-joined.Len() || strings.Contains(part, sep) {
			return "", false
		}
		joined.WriteString(part)
	}
	return joined.String(), true
}

// LessString reports whether a is lexicographically less than b, comparing byte by byte; a
// proper prefix is less than the longer string.
func LessString(a string, b string) bool { return a < b }

// Checksum returns the checksum of s and true. The checksum starts at 7 and is updated for
// every byte c of s, in order, to (41*h + c + 1) modulo 999979. If s has more than MaxString
// bytes, it returns 0 and false.
func Checksum(s string) (int, bool) {
	if len(s) > MaxString {
		return 0, false
	}
	h := 7
	for i := range len(s) {
		h = (41*h + int(s[i]) + 1) % checksumModulus
	}
	return h, true
}

// AppendChecksum returns s followed by `#` and the decimal checksum of s, and true. It returns
// the empty string and false if s contains `#` or if s or the result has more than MaxString
// bytes.
func AppendChecksum(s string) (string, bool) {
	sum, ok := Checksum(s)
	if !ok || strings.Contains(s, checksumMark) {
		return "", false
	}
	text, ok := FormatInt(sum)
	if !ok {
		return "", false
	}
	sealed := s + checksumMark + text
	if len(sealed) > MaxString {
		return "", false
	}
	return sealed, true
}

// VerifyChecksum is the inverse of AppendChecksum: it returns the string t for which
// AppendChecksum(t) is s, and true. If there is no such string, it returns the empty string and
// false.
func VerifyChecksum(s string) (string, bool) {
	body, _, found := strings.Cut(s, checksumMark)
	if !found {
		return "", false
	}
	// The only candidate is what precedes the first mark, as AppendChecksum allows no other one.
	sealed, ok := AppendChecksum(body)
	if !ok || sealed != s {
		return "", false
	}
	return strings.Clone(body), true
}
