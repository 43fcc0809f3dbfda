package literal

import "linotype/api"

// quote stands at both ends of the literal of a text, and nowhere between.
const quote = '\''

// maxText is how many bytes a text has at most: as many as an int.
const maxText = 8

// scanText reads the literal of a text whose first quote stands at a place.
func scanText(s string, at int) (int, int, api.Fault) {
	first := at + 1
	n := 0
	for i := first; i < len(s); i++ {
		switch c := s[i]; {
		case c == quote && i > first:
			return n, i + 1, api.Fault{}
		case c == quote || c < ' ' || c > '~':
			return fails(api.ErrBytes, i)
		case i-first == maxText:
			return fails(api.ErrLong, i)
		default:
			n |= int(c) << (8 * (i - first))
		}
	}
	return fails(api.ErrBytes, len(s))
}
