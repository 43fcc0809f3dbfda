package literal

import (
	"math"
	"strings"

	"linotype/api"
)

// noDigit is the value of what is no digit: too high for any base.
const noDigit = 16

// scanWord reads the word of a number whose first digit stands at a place.
func scanWord(s string, at int) (int, int, api.Fault) {
	end := wordEnd(s, at)
	base, from, to := notation(s[at:end])
	n, above, wrong := digits(s[at+from:at+to], base)
	if wrong >= 0 {
		return fails(api.ErrBytes, at+from+wrong)
	}
	if above {
		return fails(api.ErrRange, at)
	}
	return int(n), end, api.Fault{}
}

// wordEnd tells where the word characters from a place on end.
func wordEnd(s string, at int) int {
	for at < len(s) && inWord(s[at]) {
		at++
	}
	return at
}

// inWord tells whether a byte is a word character.
func inWord(c byte) bool {
	return c >= '0' && c <= '9' || c >= 'a' && c <= 'z' || c >= 'A' && c <= 'Z' || c == '_'
}

// notation tells the base of a word, and from where to where its digits stand in it.
func notation(word string) (base uint64, from, to int) {
	size := len(word)
	begins := ""
	if size > 2 {
		begins = strings.ToLower(word[:2])
	}
	switch ends := word[size-1]; {
	case begins == "0x":
		return 16, 2, size
	case ends == 'h' || ends == 'H':
		return 16, 0, size - 1
	case begins == "0b":
		return 2, 2, size
	case begins == "0o":
		return 8, 2, size
	}
	return 10, 0, size
}

// digits tells the number of digits of a base, modulo 2^64; whether it is above what 64 bits hold; the place of the first byte that is wrong (-1: none).
func digits(s string, base uint64) (n uint64, above bool, wrong int) {
	at := 0
digit:
	if at == len(s) {
		return n, above, -1
	}
	if divides(s, at) {
		at++
		goto digit
	}
	d := value(s[at])
	if d >= base {
		return 0, false, at
	}
	// Not the end yet: a byte that is wrong counts more, wherever it stands.
	above = above || n > (math.MaxUint64-d)/base
	n = n*base + d
	at++
	goto digit
}

// divides tells whether there is a _ at a place of digits, and allowed: of two in a row the second is not.
func divides(s string, at int) bool {
	return s[at] == '_' && at > 0 && at < len(s)-1 && s[at-1] != '_'
}

// value tells what a byte counts as a digit, in any base that has it.
func value(c byte) uint64 {
	switch {
	case c >= '0' && c <= '9':
		return uint64(c - '0')
	case c >= 'a' && c <= 'f':
		return uint64(c-'a') + 10
	case c >= 'A' && c <= 'F':
		return uint64(c-'A') + 10
	}
	return noDigit
}
