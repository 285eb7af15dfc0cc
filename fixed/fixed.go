// Package fixed is layer 1: numbers with 16 bits behind the point, checked and rounded down; see shared/doc/01-fixed.md.
package fixed

import (
	"iter"
	"math/bits"
	"slices"
	"strings"

	"mullion/api"
)

const (
	pointBits  = 16 // api.One is 1 and as many noughts, in bits
	restDigits = 4  // behind the point, hexadecimal
	wholeBase  = 10
	restBase   = 16
	numerals   = "0123456789abcdef"
)

// signed is any integer that has a sign.
type signed interface {
	~int | ~int8 | ~int16 | ~int32 | ~int64
}

// integer is any integer.
type integer interface {
	signed | ~uint | ~uint8 | ~uint16 | ~uint32 | ~uint64
}

// Add is a sum.
func Add(a, b int64) (int64, api.Errno) {
	return checked(a, b, api.MaxBits, plus)
}

// Sub is a difference.
func Sub(a, b int64) (int64, api.Errno) {
	return checked(a, b, api.MaxBits, minus)
}

// Mul is a product, rounded down.
func Mul(a, b int64) (int64, api.Errno) {
	return checked(a, b, api.MaxBits, func(a, b int64) (int64, bool) {
		return mulDiv(a, b, api.One)
	})
}

// Div is a quotient, rounded down.
func Div(a, b int64) (int64, api.Errno) {
	if b == 0 {
		return 0, api.ErrBy
	}
	return checked(a, b, api.MaxBits, func(a, b int64) (int64, bool) {
		return mulDiv(a, api.One, b)
	})
}

// Of is a whole number.
func Of(n int64) (int64, api.Errno) {
	if !within(n, api.MaxBits/api.One) {
		return 0, api.ErrOver
	}
	return n * api.One, api.OK
}

// Floor is the greatest whole number that is not above a.
func Floor(a int64) int64 {
	// A shift rounds down below 0 too, where / would round towards 0.
	return a >> pointBits
}

// Clamp cuts a number: low goes ahead of high, where both would cut it.
func Clamp(a, low, high int64) int64 {
	if a < low {
		return low
	}
	if a > high {
		return high
	}
	return a
}

// Text is a number's text.
func Text(a int64) (string, api.Errno) {
	if !within(a, api.MaxBits) {
		return "", api.ErrOver
	}
	var backwards []byte
writing:
	for digit, left := range digits(size(a)) {
		backwards = append(backwards, digit)
		switch {
		case len(backwards) == restDigits:
			backwards = append(backwards, '.')
		case len(backwards) > restDigits && left == 0:
			break writing
		}
	}
	if a < 0 {
		backwards = append(backwards, '-')
	}
	slices.Reverse(backwards)
	return string(backwards), api.OK
}

// Parse is a text's number.
func Parse(s string) (int64, api.Errno) {
	unsigned, below := strings.CutPrefix(s, "-")
	n, ok := value(unsigned)
	if !ok {
		return 0, api.ErrFixed
	}
	a := withSign(n, below)
	// A number has one text: whatever stood in s that does not belong there makes it another one.
	if text, e := Text(a); e != api.OK || text != s {
		return 0, api.ErrFixed
	}
	return a, api.OK
}

// checked does a step; ErrOver, unless a, b and what comes out are within most, and nothing went round on the way.
func checked[N signed](a, b, most N, step func(a, b N) (N, bool)) (N, api.Errno) {
	if !within(a, most) || !within(b, most) {
		return 0, api.ErrOver
	}
	n, ok := step(a, b)
	if !ok || !within(n, most) {
		return 0, api.ErrOver
	}
	return n, api.OK
}

// within says whether n is from -most to most.
func within[N signed](n, most N) bool {
	return -most <= n && n <= most
}

// plus is a sum, and whether it did not go round.
func plus[N integer](a, b N) (N, bool) {
	sum := a + b
	return sum, (b < 0) == (sum < a)
}

// minus is a difference, and whether it did not go round.
func minus[N integer](a, b N) (N, bool) {
	difference := a - b
	return difference, (b < 0) == (difference > a)
}

// mulDiv is a times b by c, rounded down, and whether it is within MaxBits; c is not 0.
func mulDiv(a, b, c int64) (int64, bool) {
	high, low := bits.Mul64(size(a), size(b))
	if high >= size(c) {
		return 0, false // bits.Div64 panics here
	}
	quotient, rest := bits.Div64(high, low, size(c))
	below := (a < 0) != (b < 0) != (c < 0)
	ok := true
	if below && rest != 0 {
		// Down is away from 0 here.
		quotient, ok = plus(quotient, 1)
	}
	if !ok || quotient > api.MaxBits {
		return 0, false
	}
	return withSign(quotient, below), true
}

// size is how far a is from 0: unsigned, for that of the least int64 is no int64.
func size(a int64) uint64 {
	if a < 0 {
		return -uint64(a)
	}
	return uint64(a)
}

// withSign is the number of a size of at most MaxBits.
func withSign(size uint64, below bool) int64 {
	if below {
		return -int64(size)
	}
	return int64(size)
}

// digits tells a size's digits, the lowest one first, and with each what is left of the size above it: those behind the point, and then those ahead of it, noughts without end.
func digits(size uint64) iter.Seq2[byte, uint64] {
	return func(yield func(byte, uint64) bool) {
		left := size
		for place := 0; ; place++ {
			base := uint64(wholeBase)
			if place < restDigits {
				base = restBase
			}
			digit := left % base
			left /= base
			if !yield(numerals[digit], left) {
				return
			}
		}
	}
}

// value is what the digits of a text come to, wherever they and points stand; false, if anything else stands there, or it is above MaxBits.
func value(text string) (uint64, bool) {
	n, base := uint64(0), uint64(wholeBase)
	for _, c := range []byte(text) {
		if c == '.' {
			base = restBase
			continue
		}
		at := strings.IndexByte(numerals, c)
		if at < 0 {
			return 0, false
		}
		digit := uint64(at)
		if n > (api.MaxBits-digit)/base {
			return 0, false
		}
		n = n*base + digit
	}
	return n, true
}
