package entry

import (
	"strconv"
	"strings"

	"headgate/api"
)

// maxDigits is how many digits a number in a text may have.
const maxDigits = 3

// Text returns the text of an entry.
func Text(e api.Entry) (string, api.Errno) {
	if err := Check(e); err != api.OK {
		return "", err
	}
	switch e.Kind {
	case api.Present:
		return "p" + strconv.Itoa(e.Number) + flags(e), api.OK
	case api.Swapped:
		return "s" + strconv.Itoa(e.Number), api.OK
	}
	return "-", api.OK
}

// flags returns the letters of the flags of a Present entry.
func flags(e api.Entry) string {
	s := "c"
	if e.Writable {
		s = "w"
	}
	if e.Referenced {
		s += "r"
	}
	return s
}

// Parse returns the entry of a text.
func Parse(s string) (api.Entry, api.Errno) {
	if s == "-" {
		return api.Entry{}, api.OK
	}
	digits := strings.TrimLeft(s, "ps")
	digits = strings.TrimRight(digits, "wcr")
	n, ok := number(digits)
	if !ok {
		return api.Entry{}, api.ErrForm
	}
	e, ok := like(s, digits)
	if !ok {
		return api.Entry{}, api.ErrForm
	}
	e.Number = n
	if err := Check(e); err != api.OK {
		return api.Entry{}, err
	}
	return e, api.OK
}

// like returns the entry, but for its number, whose text has what s has before and behind the digits.
func like(s, digits string) (api.Entry, bool) {
	switch before, behind, _ := strings.Cut(s, digits); before + "." + behind {
	case "s.":
		return api.Entry{Kind: api.Swapped}, true
	case "p.w":
		return api.Entry{Kind: api.Present, Writable: true}, true
	case "p.c":
		return api.Entry{Kind: api.Present, Cow: true}, true
	case "p.wr":
		return api.Entry{Kind: api.Present, Writable: true, Referenced: true}, true
	case "p.cr":
		return api.Entry{Kind: api.Present, Cow: true, Referenced: true}, true
	}
	return api.Entry{}, false
}

// number reads a number of one to three digits, without a needless zero.
func number(s string) (int, bool) {
	if s == "" || len(s) > maxDigits || s[0] == '0' && len(s) > 1 {
		return 0, false
	}
	n := 0
	for i := range len(s) {
		if s[i] < '0' || s[i] > '9' {
			return 0, false
		}
		n = 10*n + int(s[i]-'0')
	}
	return n, true
}
