package row

import (
	"strconv"

	"headgate/api"
)

// Sound returns OK if the word is sound.
func Sound(w api.Word) api.Errno {
	sound := false
	switch w.Kind {
	case api.IsName:
		sound = Name(w.Name) && !w.Minus && w.N == 0 && w.To == 0
	case api.IsNumber:
		sound = w.Name == "" && !(w.Minus && w.N == 0) && w.To == 0
	case api.IsSpan:
		sound = w.Name == "" && !w.Minus && w.N <= w.To
	default:
		return api.ErrKind
	}
	if !sound {
		return api.ErrForm
	}
	return api.OK
}

// Text returns the forms of rows.
func Text(rows []api.Row) (string, api.Errno) {
	var text []byte
	for _, r := range rows {
		form, err := rowForm(r)
		if err != api.OK {
			return "", err
		}
		text = append(append(text, form...), '\n')
		if len(text) > api.MaxText {
			return "", api.ErrLong
		}
	}
	return string(text), api.OK
}

// rowForm returns the form of a row, without its line feed.
func rowForm(r api.Row) ([]byte, api.Errno) {
	if len(r.Words) == 0 {
		return nil, api.ErrForm
	}
	for _, w := range r.Words {
		if err := Sound(w); err != api.OK {
			return nil, err
		}
	}
	var form []byte
	for i, w := range r.Words {
		if i > 0 {
			form = append(form, ' ')
		}
		form = appendWord(form, w)
		if len(form) > api.MaxLine {
			return nil, api.ErrLong
		}
	}
	return form, api.OK
}

// appendWord appends the form of a word that is sound.
func appendWord(form []byte, w api.Word) []byte {
	switch {
	case w.Kind == api.IsName:
		return append(form, w.Name...)
	case w.Minus:
		form = append(form, '-')
	}
	form = strconv.AppendUint(form, w.N, decimal)
	if w.Kind == api.IsSpan {
		form = append(form, points...)
		form = strconv.AppendUint(form, w.To, decimal)
	}
	return form
}
