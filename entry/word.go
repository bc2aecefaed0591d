package entry

import "headgate/api"

// word is the word of an entry: its flags are bits, its numbers are fields.
type word uint64

// The flags of a word.
const (
	writable   word = 1 << 2
	cow        word = 1 << 3
	referenced word = 1 << 4
)

// The fields of a word, as indices of fields.
const (
	kindField   = 0
	numberField = 1
)

// field says where in a word a number lies, and how many bits it has.
type field struct {
	shift, width uint
}

var fields = [2]field{{shift: 0, width: 2}, {shift: 8, width: 8}}

// join puts numbers together, in the order of the fields.
func join(numbers ...int) word {
	w := word(0)
	for i, n := range numbers {
		w |= word(n) << fields[i].shift
	}
	return w
}

// field returns the number in a field.
func (w word) field(i int) int {
	return int(w >> fields[i].shift & fields[i].mask())
}

// mask has the bits of a field, as if it began at the bit 0.
func (f field) mask() word { return 1<<f.width - 1 }

// with returns the word with a flag, or without it.
func (w word) with(flag word, on bool) word {
	if on {
		return w | flag
	}
	return w &^ flag
}

// has says whether a word has a flag.
func (w word) has(flag word) bool { return w&flag != 0 }

// known says whether all bits of a word belong to fields or flags.
func (w word) known() bool {
	all := writable | cow | referenced
	for _, f := range fields {
		all |= f.mask() << f.shift
	}
	return w&^all == 0
}

// entry returns what the fields and flags of a word say, valid or not.
func (w word) entry() api.Entry {
	return api.Entry{
		Kind:       w.field(kindField),
		Number:     w.field(numberField),
		Writable:   w.has(writable),
		Cow:        w.has(cow),
		Referenced: w.has(referenced),
	}
}
