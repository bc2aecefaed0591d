package page

import (
	"strings"

	"headgate/api"
)

// A word is written with wordDigits digits, and a blank stands between words.
const (
	hexDigits  = "0123456789abcdef"
	digitBits  = 4
	wordDigits = wordBits / digitBits
	textBytes  = api.Words*(wordDigits+1) - 1
)

// Text returns the text of a page.
func Text(c api.Content) string {
	text := make([]byte, 0, textBytes)
	for w, v := range c {
		if w > 0 {
			text = append(text, ' ')
		}
		for d := range wordDigits {
			text = append(text, hexDigits[v>>(wordBits-digitBits*(d+1))%(1<<digitBits)])
		}
	}
	return string(text)
}

// Parse returns the page of a text.
func Parse(s string) (api.Content, api.Fault) {
	if len(s) > textBytes {
		return api.Content{}, api.Fault{Err: api.ErrLong, At: textBytes}
	}
	var c api.Content
	at := 0
reading:
	for i, b := range []byte(s) {
		w, d := i/(wordDigits+1), i%(wordDigits+1)
		digit := strings.IndexByte(hexDigits, b)
		switch {
		case d == wordDigits && b == ' ':
		case d < wordDigits && digit >= 0:
			c[w] = c[w]<<digitBits | uint64(digit)
		default:
			break reading
		}
		at++
	}
	if at < textBytes {
		return api.Content{}, api.Fault{Err: api.ErrForm, At: at}
	}
	return c, api.Fault{}
}
