package script

import (
	"headgate/api"
	"headgate/row"
	"headgate/zone"
)

// The first word of the first row, how many numbers stand behind it, and the greatest number that is read.
const (
	machineName   = "machine"
	configNumbers = 9
	maxNumber     = 1 << 40
)

// numbers returns the kinds of commands by their names.
func numbers() map[string]int {
	return map[string]int{
		"spawn": api.DoSpawn, "map": api.DoMap, "unmap": api.DoUnmap, "read": api.DoRead,
		"write": api.DoWrite, "fork": api.DoFork, "exit": api.DoExit, "hoard": api.DoHoard,
		"pick": api.DoPick, "complete": api.DoComplete, "rounds": api.DoRounds, "kill": api.DoKill,
	}
}

// name returns the name of a kind.
func name(kind int) string {
	for s, k := range numbers() {
		if k == kind {
			return s
		}
	}
	return ""
}

// nameWord returns a name as a word.
func nameWord(s string) api.Word { return api.Word{Kind: api.IsName, Name: s} }

// numberWord returns a number as a word.
func numberWord(n uint64) api.Word { return api.Word{Kind: api.IsNumber, N: n} }

// commandRow returns the row of a valid command.
func commandRow(c api.Command) api.Row {
	words := []api.Word{nameWord(name(c.Kind))}
	u := uses[c.Kind]
	if u&usesProc != 0 {
		words = append(words, numberWord(uint64(c.Proc)))
	}
	if isRange(c.Kind) {
		words = append(words, api.Word{Kind: api.IsSpan, N: uint64(c.A), To: uint64(c.B)})
		return api.Row{Words: words}
	}
	if u&usesA != 0 {
		words = append(words, numberWord(uint64(c.A)))
	}
	if u&usesB != 0 {
		words = append(words, numberWord(uint64(c.B)))
	}
	if u&usesValue != 0 {
		words = append(words, numberWord(c.Value))
	}
	return api.Row{Words: words}
}

// machineRow returns the row of a valid configuration.
func machineRow(c api.Config) api.Row {
	words := []api.Word{nameWord(machineName)}
	for _, n := range [configNumbers]int{c.Frames, c.Low, c.Slots, c.Cap, c.Queue, c.Min, c.LowMark, c.High, c.MapCap} {
		words = append(words, numberWord(uint64(n)))
	}
	return api.Row{Words: words}
}

// Row returns the text of a command.
func Row(c api.Command) (string, api.Errno) {
	if err := One(c); err != api.OK {
		return "", err
	}
	return row.Text([]api.Row{commandRow(c)})
}

// Text returns the text of an experiment.
func Text(s api.Script) (string, api.Errno) {
	if f := Check(s); f.Err != api.OK {
		return "", f.Err
	}
	rows := []api.Row{machineRow(s.Config)}
	for _, c := range s.Commands {
		rows = append(rows, commandRow(c))
	}
	return row.Text(rows)
}

// reader reads rows into an experiment, and keeps the first fault.
type reader struct {
	script api.Script
	fault  api.Fault
}

// fail keeps an error at a row, if there is one and it is the first.
func (r *reader) fail(l api.Row, err api.Errno) {
	if r.fault.Err == api.OK && err != api.OK {
		r.fault = api.Fault{Err: err, At: l.Words[0].At}
	}
}

// plain says whether a word is a number without a minus sign.
func plain(w api.Word) bool { return w.Kind == api.IsNumber && !w.Minus }

// large says whether a number of a word is greater than those that are read.
func large(w api.Word) bool { return max(w.N, w.To) > maxNumber }

// machine reads the first row.
func (r *reader) machine(l api.Row) {
	var n [configNumbers]int
	if l.Words[0].Kind != api.IsName || l.Words[0].Name != machineName {
		r.fail(l, api.ErrName)
		return
	}
	words := l.Words[1:]
	if len(words) != configNumbers {
		r.fail(l, api.ErrForm)
		return
	}
	tooLarge := false
	for i, w := range words {
		if !plain(w) {
			r.fail(l, api.ErrForm)
			return
		}
		tooLarge = tooLarge || large(w)
		n[i] = int(w.N)
	}
	if tooLarge {
		r.fail(l, api.ErrRange)
		return
	}
	r.script.Config = api.Config{Frames: n[0], Low: n[1], Slots: n[2], Cap: n[3], Queue: n[4], Min: n[5], LowMark: n[6], High: n[7], MapCap: n[8]}
	_, err := zone.Fit(r.script.Config)
	r.fail(l, err)
}

// command reads any other row.
func (r *reader) command(l api.Row) {
	kind, known := numbers()[l.Words[0].Name]
	switch {
	case l.Words[0].Kind != api.IsName || !known:
		r.fail(l, api.ErrName)
		return
	case len(r.script.Commands) == api.MaxCommands:
		r.fail(l, api.ErrLong)
		return
	}
	c, err := readCommand(kind, l.Words[1:])
	if err == api.OK {
		err = One(c)
	}
	r.fail(l, err)
	r.script.Commands = append(r.script.Commands, c)
}

// readCommand returns the command of a kind with the words behind its name.
func readCommand(kind int, words []api.Word) (api.Command, api.Errno) {
	c := api.Command{Kind: kind}
	if !formed(kind, words) {
		return c, api.ErrForm
	}
	u := uses[kind]
	for i, w := range words {
		if large(w) && !(u&usesValue != 0 && i == len(words)-1) {
			return c, api.ErrRange
		}
	}
	next := func() api.Word {
		w := words[0]
		words = words[1:]
		return w
	}
	if u&usesProc != 0 {
		c.Proc = int(next().N)
	}
	if isRange(kind) {
		w := next()
		c.A, c.B = int(w.N), int(max(w.N, w.To))
		return c, api.OK
	}
	if u&usesA != 0 {
		c.A = int(next().N)
	}
	if u&usesB != 0 {
		c.B = int(next().N)
	}
	if u&usesValue != 0 {
		c.Value = next().N
	}
	return c, api.OK
}

// formed says whether words are as many, and of the kinds, as a command has behind its name.
func formed(kind int, words []api.Word) bool {
	want := 0
	for u := uses[kind]; u > 0; u >>= 1 {
		want += int(u & 1)
	}
	if isRange(kind) {
		want--
	}
	if len(words) != want {
		return false
	}
	for i, w := range words {
		pages := isRange(kind) && i == want-1
		if !plain(w) && !(pages && w.Kind == api.IsSpan) {
			return false
		}
	}
	return true
}

// Parse returns the experiment of a text.
func Parse(text string) (api.Script, api.Fault) {
	rows, f := row.Rows(text)
	if f.Err != api.OK {
		return api.Script{}, f
	}
	if len(rows) == 0 {
		return api.Script{}, api.Fault{Err: api.ErrMissing}
	}
	r := &reader{}
	read := (*reader).machine
	for _, l := range rows {
		read(r, l)
		if r.fault.Err != api.OK {
			return api.Script{}, r.fault
		}
		read = (*reader).command
	}
	return r.script, api.Fault{}
}
