package addr

import (
	"strconv"
	"strings"

	"headgate/api"
)

// points stand between the two numbers of a range; maxDigits is how many digits a number may have.
const (
	points    = ".."
	maxDigits = 18
)

// Text returns the text of a range.
func Text(r api.Range) (string, api.Errno) {
	if err := Check(r); err != api.OK {
		return "", err
	}
	if r.From == r.To {
		return strconv.Itoa(r.From), api.OK
	}
	return strconv.Itoa(r.From) + points + strconv.Itoa(r.To), api.OK
}

// Parse returns the range of a text.
func Parse(s string) (api.Range, api.Errno) {
	first, second, two := strings.Cut(s, points)
	if !two {
		second = first
	}
	from, ok := number(first)
	to, also := number(second)
	if !ok || !also {
		return api.Range{}, api.ErrForm
	}
	r := api.Range{From: from, To: to}
	if err := Check(r); err != api.OK {
		return api.Range{}, err
	}
	return r, api.OK
}

// number reads a number of 1 to 18 digits, without a needless zero.
func number(s string) (int, bool) {
	if s == "" || len(s) > maxDigits || s[0] == '0' && len(s) > 1 {
		return 0, false
	}
	n := 0
	for i := range len(s) {
		if s[i] < '0' || s[i] > '9' {
			return 0, false
		}
		n = 10*n + int(s[i]-'0')
	}
	return n, true
}
