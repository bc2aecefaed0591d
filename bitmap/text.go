package bitmap

import (
	"strconv"
	"strings"

	"headgate/api"
)

// A digit of a text stands for digitBits numbers; maxSize is the greatest size that a text may name.
const (
	hexDigits = "0123456789abcdef"
	digitBits = 4
	maxSize   = 9999
)

// Text returns the text of a set.
func Text(b api.Bits) (string, api.Errno) {
	if err := Check(b); err != api.OK {
		return "", err
	}
	text := append(strconv.AppendInt(nil, int64(b.N), 10), ':')
	for k := range digits(b.N) {
		w, shift := place(k)
		text = append(text, hexDigits[b.W[w]>>shift%(1<<digitBits)])
	}
	return string(text), api.OK
}

// Parse returns the set of a text.
func Parse(text string) (api.Bits, api.Errno) {
	size, rest, found := strings.Cut(text, ":")
	n, ok := number(size)
	if !found || !ok || len(rest) != digits(n) {
		return api.Bits{}, api.ErrForm
	}
	b := empty(n)
	for k := range len(rest) {
		d := strings.IndexByte(hexDigits, rest[k])
		if d < 0 {
			return api.Bits{}, api.ErrForm
		}
		w, shift := place(k)
		b.W[w] |= uint64(d) << shift
	}
	// The form comes first, also that of sets that are too large.
	if !fits(b) {
		return api.Bits{}, api.ErrForm
	}
	if n > api.MaxBits {
		return api.Bits{}, api.ErrRange
	}
	return b, api.OK
}

// digits returns how many digits the text of a set of the size n has.
func digits(n int) int { return (n + digitBits - 1) / digitBits }

// place returns the word in which the numbers of the digit k are, and where in it they begin.
func place(k int) (w int, shift uint) {
	return k * digitBits / wordBits, uint(k * digitBits % wordBits)
}

// number reads a size, which has no needless zeros.
func number(s string) (int, bool) {
	if s == "" || s[0] == '0' && len(s) > 1 {
		return 0, false
	}
	n := 0
	for i := range len(s) {
		if s[i] < '0' || s[i] > '9' {
			return 0, false
		}
		if n = 10*n + int(s[i]-'0'); n > maxSize {
			return 0, false
		}
	}
	return n, true
}
