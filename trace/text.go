package trace

import (
	"headgate/api"
	"headgate/row"
)

// maxNumber is the greatest number that is read for a field other than a value or a ticket.
const maxNumber = 1000

// number returns a number as a word.
func number(n uint64) api.Word { return api.Word{Kind: api.IsNumber, N: n} }

// newRow returns the row of words.
func newRow(words ...api.Word) api.Row { return api.Row{Words: words} }

// word returns a field of an outcome as a word.
func (f field) word(o outcome) api.Word {
	switch f {
	case fieldPages:
		return api.Word{Kind: api.IsSpan, N: uint64(o.Page), To: uint64(o.Other)}
	case fieldPage:
		return number(uint64(o.Page))
	case fieldOther:
		return number(uint64(o.Other))
	case fieldWord:
		return number(uint64(o.Word))
	case fieldValue:
		return number(o.Value)
	}
	return number(o.Ticket)
}

// read puts a word into a field of an outcome, and says whether it is one of the field.
func (f field) read(o *outcome, w api.Word) bool {
	if f == fieldPages {
		o.Page, o.Other = int(w.N), int(w.To)
		return w.Kind == api.IsSpan && w.To <= maxNumber
	}
	if w.Kind != api.IsNumber || w.Minus {
		return false
	}
	switch f {
	case fieldValue:
		o.Value = w.N
		return true
	case fieldTicket:
		o.Ticket = w.N
		return true
	case fieldPage:
		o.Page = int(w.N)
	case fieldOther:
		o.Other = int(w.N)
	case fieldWord:
		o.Word = int(w.N)
	}
	return w.N <= maxNumber
}

// Text returns the text of a trace.
func Text(l []api.Outcome) (string, api.Errno) {
	if err, _ := Check(l); err != api.OK {
		return "", err
	}
	all := forms()
	var rows []api.Row
	for _, o := range l {
		f := all[o.Kind]
		r := newRow(api.Word{Kind: api.IsName, Name: f.name}, number(uint64(o.Proc)))
		for _, used := range f.fields {
			r = newRow(append(r.Words, used.word(outcome(o)))...)
		}
		rows = append(rows, r)
	}
	return row.Text(rows)
}

// Parse returns the trace of a text.
func Parse(text string) ([]api.Outcome, api.Fault) {
	rows, f := row.Rows(text)
	if f.Err != api.OK {
		return nil, f
	}
	all := forms()
	var l []api.Outcome
	for i, r := range rows {
		if i == api.MaxOutcomes {
			return nil, api.Fault{Err: api.ErrFull, At: r.At}
		}
		o, ok := readRow(r.Words, all)
		if !ok {
			return nil, api.Fault{Err: api.ErrForm, At: r.Words[0].At}
		}
		if err := checkOne(o, all); err != api.OK {
			return nil, api.Fault{Err: err, At: r.Words[0].At}
		}
		l = append(l, api.Outcome(o))
	}
	return l, api.Fault{}
}

// readRow returns the outcome of the words of a row, and whether they have the form of one.
func readRow(words []api.Word, all [kinds + 1]form) (outcome, bool) {
	var o outcome
	for kind, f := range all {
		if f.name != "" && words[0].Name == f.name {
			o.Kind = kind
		}
	}
	fields := all[o.Kind].fields
	if o.Kind == 0 || len(words) != 2+len(fields) {
		return outcome{}, false
	}
	proc := words[1]
	if proc.Kind != api.IsNumber || proc.Minus || proc.N > maxNumber {
		return outcome{}, false
	}
	o.Proc = int(proc.N)
	for i, used := range fields {
		if !used.read(&o, words[2+i]) {
			return outcome{}, false
		}
	}
	return o, true
}
