// Package digits is layer 1: numbers as digits. See shared/doc/01-digits.md.
package digits

import (
	"strconv"
	"strings"

	"turntable/api"
)

// How far from nought a number may be, on either side of it.
const (
	mostAbove = 1<<63 - 1
	mostBelow = 1 << 63
)

// Print is a number in decimal digits, in as few as there can be, with - ahead below nought.
func Print(n int64) string { return strconv.FormatInt(n, 10) }

// Small is Print of a number that is counted with.
func Small(n int) string { return Print(int64(n)) }

// Parse is the number that digits are, in as few as there can be.
func Parse(s string) (int64, api.Code) {
	rest, below := strings.CutPrefix(s, "-")
	if !fewest(rest, below) {
		return 0, api.ErrNumber
	}
	if below {
		n, code := distance(rest, mostBelow)
		// Turned round while it is unsigned: the lowest number has no counterpart above nought.
		return int64(-n), code
	}
	n, code := distance(rest, mostAbove)
	return int64(n), code
}

// Index is the number from nought up to a greatest one that digits are.
func Index(s string, most int) (int, api.Code) {
	n, code := Parse(s)
	if code != api.OK {
		return 0, code
	}
	if n < 0 || n > int64(most) {
		return 0, api.ErrRange
	}
	return int(n), api.OK
}

// fewest says whether something stands there, and no nought that Print would leave out.
func fewest(rest string, below bool) bool {
	if rest == "" {
		return false
	}
	return rest[0] != '0' || len(rest) == 1 && !below
}

// distance is the number that digits without a sign are, if it is not beyond most.
func distance(rest string, most uint64) (uint64, api.Code) {
	n, beyond := uint64(0), false
digits:
	for i := range len(rest) {
		// Bytes below '0' wrap round to more than 9, too.
		d := uint64(rest[i] - '0')
		switch {
		case d > 9:
			return 0, api.ErrNumber
		case beyond || n > (most-d)/10:
			// Those behind are gone through all the same: ErrNumber is named ahead of ErrRange.
			beyond = true
			continue digits
		}
		n = n*10 + d
	}
	if beyond {
		return 0, api.ErrRange
	}
	return n, api.OK
}
