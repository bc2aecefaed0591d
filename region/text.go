package region

import (
	"strconv"

	"headgate/api"
)

// The texts of regions have at most maxText bytes, their numbers at most maxDigits digits.
const (
	maxText   = 200
	maxDigits = 2
)

// Text returns the text of regions.
func Text(l []api.Range) (string, api.Errno) {
	if err, _ := Check(l); err != api.OK {
		return "", err
	}
	var text []byte
	for i, r := range l {
		if i > 0 {
			text = append(text, ' ')
		}
		text = strconv.AppendInt(text, int64(r.From), 10)
		if r.To > r.From {
			text = strconv.AppendInt(append(text, '-'), int64(r.To), 10)
		}
	}
	return string(text), api.OK
}

// reader reads a text from its beginning to the first byte that does not fit.
type reader struct {
	text string
	at   int
	bad  bool
}

// next takes a byte, if it is the next one.
func (r *reader) next(b byte) bool {
	if r.bad || r.at == len(r.text) || r.text[r.at] != b {
		return false
	}
	r.at++
	return true
}

// number reads a number without a needless zero.
func (r *reader) number() (n int) {
	from := r.at
	defer func() {
		if r.at == from {
			r.bad = true
		}
	}()
	for r.at < len(r.text) && r.at < from+maxDigits {
		d := r.text[r.at]
		if d < '0' || d > '9' || r.at > from && n == 0 {
			break
		}
		n = 10*n + int(d-'0')
		r.at++
	}
	return n
}

// Parse returns the regions of a text.
func Parse(s string) ([]api.Range, api.Fault) {
	if len(s) > maxText {
		return nil, api.Fault{Err: api.ErrLong, At: maxText}
	}
	if s == "" {
		return nil, api.Fault{}
	}
	r := reader{text: s}
	var l []api.Range
	var places []int
	for more := true; more; more = r.next(' ') {
		places = append(places, r.at)
		from := r.number()
		to := from
		if r.next('-') {
			to = r.number()
		}
		l = append(l, api.Range{From: from, To: to})
	}
	if r.bad || r.at < len(s) {
		return nil, api.Fault{Err: api.ErrForm, At: r.at}
	}
	if err, i := Check(l); err != api.OK {
		return nil, api.Fault{Err: err, At: places[i]}
	}
	return l, api.Fault{}
}
