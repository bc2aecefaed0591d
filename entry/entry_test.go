package entry_test

import (
	"fmt"
	"math"
	"strconv"
	"strings"
	"testing"

	"headgate/api"
	"headgate/entry"
)

// say writes values with blanks between them, errors by their names.
func say(l ...any) string { return strings.TrimSuffix(fmt.Sprintln(l...), "\n") }

// expect compares what calls gave with what they should give.
func expect(t *testing.T, l [][2]string) {
	t.Helper()
	for i, c := range l {
		if c[0] != c[1] {
			t.Errorf("case %d: %q, not %q", i, c[0], c[1])
		}
	}
}

// valid returns all entries that are valid.
func valid() []api.Entry {
	l := []api.Entry{{}}
	for n := range 256 {
		l = append(l, api.Entry{Kind: api.Swapped, Number: n})
		for f := range 4 {
			l = append(l, api.Entry{Kind: api.Present, Number: n, Writable: f&1 == 1, Cow: f&1 == 0, Referenced: f&2 == 2})
		}
	}
	return l
}

// check says in other words which entries are valid.
func check(e api.Entry) api.Errno {
	flags := 0
	for i, on := range []bool{e.Writable, e.Cow, e.Referenced} {
		if on {
			flags |= 1 << i
		}
	}
	switch {
	case e.Kind < 0 || e.Kind > 2:
		return api.ErrKind
	case e.Number < 0 || e.Number > 255 || e.Kind == 0 && e.Number != 0:
		return api.ErrRange
	case e.Kind == 1 && flags&3 != 1 && flags&3 != 2, e.Kind != 1 && flags != 0:
		return api.ErrForm
	}
	return api.OK
}

// pack computes the word of an entry by sums.
func pack(e api.Entry) uint64 {
	w := uint64(e.Kind) + 256*uint64(e.Number)
	for i, on := range []bool{e.Writable, e.Cow, e.Referenced} {
		if on {
			w += uint64(4 << i)
		}
	}
	return w
}

// text writes a valid entry.
func text(e api.Entry) string {
	if e.Kind == api.None {
		return "-"
	}
	s := map[int]string{api.Present: "p", api.Swapped: "s"}[e.Kind] + strconv.Itoa(e.Number)
	for _, f := range []struct {
		on bool
		s  string
	}{{e.Writable, "w"}, {e.Cow, "c"}, {e.Referenced, "r"}} {
		if f.on {
			s += f.s
		}
	}
	return s
}

// P2.1

func TestCheckPackText(t *testing.T) {
	for _, kind := range []int{0, 1, 2, 3, 4, -1, -2, 1 << 32, math.MaxInt, math.MinInt} {
		for _, n := range []int{0, 1, 5, 255, 256, -1, 511, 1 << 32, 1<<32 + 1, math.MaxInt, math.MinInt} {
			for f := range 8 {
				e := api.Entry{Kind: kind, Number: n, Writable: f&1 != 0, Cow: f&2 != 0, Referenced: f&4 != 0}
				want := check(e)
				w, s := uint64(0), ""
				if want == api.OK {
					w, s = pack(e), text(e)
				}
				if err := entry.Check(e); err != want {
					t.Error("Check", e, err, want)
				}
				if got, err := entry.Pack(e); got != w || err != want {
					t.Error("Pack", e, got, err, w, want)
				}
				if got, err := entry.Text(e); got != s || err != want {
					t.Error("Text", e, got, err, s, want)
				}
			}
		}
	}
}

// P2.2, P2.5

func TestUnpack(t *testing.T) {
	words := map[uint64]api.Entry{}
	for _, e := range valid() {
		words[pack(e)] = e
		if got, err := entry.Unpack(pack(e)); got != e || err != api.OK {
			t.Error(e, got, err)
		}
	}
	for w := range uint64(1 << 17) {
		got, err := entry.Unpack(w)
		e, ok := words[w]
		switch {
		case ok:
			if got != e || err != api.OK {
				t.Fatal(w, got, err)
			}
			if back, err := entry.Pack(got); back != w || err != api.OK {
				t.Fatal(w, back, err)
			}
		case got != api.Entry{} || err != unpackError(w):
			t.Fatalf("%#x: %v %v, not %v", w, got, err, unpackError(w))
		}
	}
	for bit := 5; bit < 64; bit++ {
		if bit >= 8 && bit < 16 {
			continue
		}
		for _, w := range []uint64{0, 0x705, 0xff02, 0x719} {
			w |= 1 << bit
			if e, err := entry.Unpack(w); e != (api.Entry{}) || err != api.ErrForm {
				t.Errorf("%#x: %v %v", w, e, err)
			}
			if e, err := entry.Unpack(w | 3); e != (api.Entry{}) || err != api.ErrKind {
				t.Errorf("%#x: %v %v", w|3, e, err)
			}
		}
	}
}

// unpackError says what is wrong with a word that is that of no entry.
func unpackError(w uint64) api.Errno {
	if w%4 == 3 {
		return api.ErrKind
	}
	if w/32%8 != 0 || w >= 1<<16 {
		return api.ErrForm
	}
	return check(api.Entry{Kind: int(w % 4), Number: int(w / 256), Writable: w/4%2 == 1, Cow: w/8%2 == 1, Referenced: w/16%2 == 1})
}

func TestKind(t *testing.T) {
	for _, high := range []uint64{0, 4, 0xe0, 0x700, 1 << 63, math.MaxUint64 - 3} {
		for k := range uint64(4) {
			kind, err := entry.Kind(high + k)
			if k == 3 && (kind != 0 || err != api.ErrKind) || k < 3 && (kind != int(k) || err != api.OK) {
				t.Error(high, k, kind, err)
			}
		}
	}
}

// P2.3

func TestChanges(t *testing.T) {
	for w := range uint64(1 << 17) {
		e, bad := entry.Unpack(w)
		if bad == api.OK && e.Kind != api.Present {
			bad = api.ErrState
		}
		for _, on := range []bool{false, true} {
			written, referred := uint64(0), uint64(0)
			if bad == api.OK {
				f := e
				f.Writable, f.Cow = on, !on
				written = pack(f)
				f = e
				f.Referenced = on
				referred = pack(f)
			}
			if got, err := entry.Write(w, on); got != written || err != bad {
				t.Fatalf("Write(%#x, %v): %#x %v", w, on, got, err)
			}
			if got, err := entry.Refer(w, on); got != referred || err != bad {
				t.Fatalf("Refer(%#x, %v): %#x %v", w, on, got, err)
			}
		}
	}
}

func TestMove(t *testing.T) {
	for w := range uint64(1 << 16) {
		e, bad := entry.Unpack(w)
		if bad == api.OK && e.Kind == api.None {
			bad = api.ErrState
		}
		for _, n := range []int{0, 1, 128, 255, 256, -1, 1 << 32, math.MaxInt, math.MinInt} {
			want, wantErr := uint64(0), bad
			if bad == api.OK && (n < 0 || n > 255) {
				wantErr = api.ErrRange
			}
			if wantErr == api.OK {
				f := e
				f.Number = n
				want = pack(f)
			}
			if got, err := entry.Move(w, n); got != want || err != wantErr {
				t.Fatalf("Move(%#x, %d): %#x %v, not %#x %v", w, n, got, err, want, wantErr)
			}
		}
	}
}

// P2.4, P2.7

func TestParse(t *testing.T) {
	texts, words := map[string]api.Entry{}, map[uint64]api.Entry{}
	for _, e := range valid() {
		s, err := entry.Text(e)
		if err != api.OK || s != text(e) {
			t.Error(e, s, err)
		}
		if f, ok := texts[s]; ok {
			t.Error(s, "is the text of", e, "and", f)
		}
		w, _ := entry.Pack(e)
		if f, ok := words[w]; ok {
			t.Error(w, "is the word of", e, "and", f)
		}
		texts[s], words[w] = e, e
		if back, err := entry.Parse(s); back != e || err != api.OK {
			t.Error(s, back, err)
		}
	}
	// All short texts of the letters that matter.
	letters := "-pswcr0129 "
	list := []string{""}
	for range 5 {
		for _, s := range list {
			for _, c := range letters {
				list = append(list, s+string(c))
			}
		}
		list = list[max(0, len(list)-200000):]
		for _, s := range list {
			parseOne(t, texts, s)
		}
		if len(list) > 20000 {
			break
		}
	}
}

// parseOne checks Parse with the texts of all entries.
func parseOne(t *testing.T, texts map[string]api.Entry, s string) {
	t.Helper()
	e, ok := texts[s]
	got, err := entry.Parse(s)
	if ok && (got != e || err != api.OK) || !ok && (got != api.Entry{} || err != api.ErrForm && err != api.ErrRange) {
		t.Fatalf("%q: %v %v", s, got, err)
	}
}

func TestParseErrors(t *testing.T) {
	for _, s := range []string{"", " ", "p", "s", "w", "r", "--", "-0", "0", "12", "p12", "p12r", "p12rw", "p12rc", "p12cw", "p12wc", "p12wrr", "p12ww", "p12w ", " p12w", "p 12w", "P12w", "p12W", "p012w", "p00w", "p0000w", "s", "s07", "s00", "s5w", "s5r", "s5c", "s5cr", "ss5", "ps5", "sp5w", "pp5w", "s1000", "p1000w", "s0256", "s-1", "s+1", "p-1w", "s1.0", "s1s", "p1pw", "w5p", "s٣", "s1\n", "s2a5", "s18446744073709551617", "p256", "p999r", "s300w", "-w", "-r", "p:w", "p/w", "s:", "s/"} {
		if e, err := entry.Parse(s); e != (api.Entry{}) || err != api.ErrForm {
			t.Errorf("%q: %v %v", s, e, err)
		}
	}
	for n := 256; n < 1000; n++ {
		for _, form := range []string{"s%d", "p%dw", "p%dc", "p%dwr", "p%dcr"} {
			s := fmt.Sprintf(form, n)
			if e, err := entry.Parse(s); e != (api.Entry{}) || err != api.ErrRange {
				t.Errorf("%q: %v %v", s, e, err)
			}
		}
	}
}

// P2.6

func TestTheoremFlags(t *testing.T) {
	for _, e := range valid() {
		if e.Kind != api.Present {
			continue
		}
		w := pack(e)
		for i := range 4 {
			x, y := i&1 == 1, i&2 == 2
			a, _ := entry.Write(w, x)
			ab, _ := entry.Refer(a, y)
			b, _ := entry.Refer(w, y)
			ba, _ := entry.Write(b, x)
			if ab != ba {
				t.Errorf("%#x: %#x, %#x", w, ab, ba)
			}
			if aa, _ := entry.Write(a, x); aa != a || (a^w)&^0xc != 0 {
				t.Errorf("Write(%#x): %#x, %#x", w, a, aa)
			}
			if bb, _ := entry.Refer(b, y); bb != b || (b^w)&^0x10 != 0 {
				t.Errorf("Refer(%#x): %#x, %#x", w, b, bb)
			}
		}
	}
}

// The examples of the chapter.

func TestExamples(t *testing.T) {
	present7 := api.Entry{Kind: 1, Number: 7, Writable: true}
	expect(t, [][2]string{
		{say(entry.Pack(present7)), "1797 ok"},
		{say(entry.Pack(api.Entry{Kind: 2, Number: 255})), "65282 ok"},
		{say(entry.Pack(api.Entry{})), "0 ok"},
		{say(entry.Unpack(0x719)), "{1 7 false true true} ok"},
		{say(entry.Unpack(0x711)), "{0 0 false false false} form"},
		{say(entry.Unpack(3)), "{0 0 false false false} kind"},
		{say(entry.Unpack(0x10001)), "{0 0 false false false} form"},
		{say(entry.Unpack(0x100)), "{0 0 false false false} range"},
		{say(entry.Write(0x705, false)), "1801 ok"},
		{say(entry.Write(0x71d, true)), "0 form"},
		{say(entry.Refer(0x705, true)), "1813 ok"},
		{say(entry.Refer(0xff02, true)), "0 state"},
		{say(entry.Move(0x705, 255)), "65285 ok"},
		{say(entry.Move(0xff02, 0)), "2 ok"},
		{say(entry.Move(0, 3)), "0 state"},
		{say(entry.Move(0x705, 256)), "0 range"},
		{say(entry.Text(api.Entry{Kind: 1, Number: 7, Writable: true, Referenced: true})), "p7wr ok"},
		{say(entry.Parse("p12c")), "{1 12 false true false} ok"},
		{say(entry.Parse("s07")), "{0 0 false false false} form"},
		{say(entry.Parse("p12")), "{0 0 false false false} form"},
		{say(entry.Parse("s256")), "{0 0 false false false} range"},
		{say(entry.Parse("-")), "{0 0 false false false} ok"},
	})
}
