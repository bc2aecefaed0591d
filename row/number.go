package row

import (
	"math"
	"strings"

	"headgate/api"
)

// The forms of numbers.
const (
	points    = ".."
	hexMark   = "0x"
	maxHex    = 16
	decimal   = 10
	hexadec   = 16
	letterTen = 'a'
)

// Number returns the number without a sign that s is.
func Number(s string) (uint64, bool) {
	if hex, ok := strings.CutPrefix(s, hexMark); ok {
		return hexNumber(hex)
	}
	if s == "" || s[0] == '0' && len(s) > 1 {
		return 0, false
	}
	n := uint64(0)
	for i := range len(s) {
		d := digit(rune(s[i]))
		if d >= decimal || n > (math.MaxUint64-d)/decimal {
			return 0, false
		}
		n = decimal*n + d
	}
	return n, true
}

// hexNumber returns the number of 1 to 16 hexadecimal digits.
func hexNumber(s string) (uint64, bool) {
	if s == "" || len(s) > maxHex {
		return 0, false
	}
	n := uint64(0)
	for i := range len(s) {
		d := digit(rune(s[i]))
		if d >= hexadec {
			return 0, false
		}
		n = hexadec*n + d
	}
	return n, true
}

// digit returns what a digit counts, and too much for what is none.
func digit(r rune) uint64 {
	switch {
	case r >= '0' && r <= '9':
		return uint64(byte(r) - '0')
	case r >= letterTen && r <= 'f':
		return uint64(byte(r)-letterTen) + decimal
	}
	return hexadec
}

// Int returns the number of a word, if it is from low to high.
func Int(w api.Word, low, high int) (int, api.Errno) {
	if err := Sound(w); err != api.OK {
		return 0, err
	}
	if w.Kind != api.IsNumber {
		return 0, api.ErrKind
	}
	n, ok := signed(w)
	if !ok || n < int64(low) || n > int64(high) {
		return 0, api.ErrRange
	}
	return int(n), api.OK
}

// signed returns the number of a word with its sign, if 64 bits have room for it.
func signed(w api.Word) (int64, bool) {
	if w.Minus {
		return int64(-w.N), w.N <= 1<<63
	}
	return int64(w.N), w.N < 1<<63
}

// Span returns the range of a word, if it ends at high at most.
func Span(w api.Word, high int) (api.Range, api.Errno) {
	if err := Sound(w); err != api.OK {
		return api.Range{}, err
	}
	if w.Kind == api.IsName || w.Minus {
		return api.Range{}, api.ErrKind
	}
	to := w.To
	if w.Kind == api.IsNumber {
		to = w.N
	}
	if high < 0 || to > uint64(high) {
		return api.Range{}, api.ErrRange
	}
	return api.Range{From: int(w.N), To: int(to)}, api.OK
}
