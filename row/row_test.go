package row_test

import (
	"fmt"
	"math"
	"math/big"
	"math/rand/v2"
	"strings"
	"testing"

	"headgate/api"
	"headgate/row"
)

// say writes values with blanks between them, errors by their names.
func say(l ...any) string { return strings.TrimSuffix(fmt.Sprintln(l...), "\n") }

// expect compares what calls gave with what they should give.
func expect(t *testing.T, l [][2]string) {
	t.Helper()
	for i, c := range l {
		if c[0] != c[1] {
			t.Errorf("case %d: %q, not %q", i, c[0], c[1])
		}
	}
}

// show writes rows with the offsets of lines and words, / for the end of each row.
func show(rows []api.Row, f api.Fault) string {
	s := ""
	for _, r := range rows {
		s += fmt.Sprintf("%d:", r.At)
		for _, w := range r.Words {
			s += fmt.Sprintf(" %d=%s", w.At, word(w))
		}
		s += "/"
	}
	if f != (api.Fault{}) {
		s += say(f)
	}
	return s
}

// word writes a word with all its fields that are not zero.
func word(w api.Word) string {
	s := fmt.Sprint("k", w.Kind, w.Name)
	if w.Minus {
		s += "-"
	}
	if w.N != 0 {
		s += fmt.Sprint("n", w.N)
	}
	if w.To != 0 {
		s += fmt.Sprint("t", w.To)
	}
	return s
}

// without returns rows without their offsets.
func without(rows []api.Row) []api.Row {
	var l []api.Row
	for _, r := range rows {
		var words []api.Word
		for _, w := range r.Words {
			w.At = 0
			words = append(words, w)
		}
		l = append(l, api.Row{Words: words})
	}
	return l
}

func name(s string) api.Word            { return api.Word{Kind: api.IsName, Name: s} }
func num(n uint64) api.Word             { return api.Word{Kind: api.IsNumber, N: n} }
func minus(n uint64) api.Word           { return api.Word{Kind: api.IsNumber, N: n, Minus: true} }
func span(n, to uint64) api.Word        { return api.Word{Kind: api.IsSpan, N: n, To: to} }
func oneRow(l ...api.Word) []api.Row    { return []api.Row{{Words: l}} }
func rows(s string) string              { return show(row.Rows(s)) }
func repeat(s string, n int) string     { return strings.Repeat(s, n) }
func lines(n int, length int) string    { return repeat(repeat("a", length)+"\n", n) }
func blanks(n int) string               { return repeat(" ", n) }
func text(r []api.Row) (s string)       { s, _ = row.Text(r); return s }
func textErr(r []api.Row) (e api.Errno) { _, e = row.Text(r); return e }

// P5.1

func TestRows(t *testing.T) {
	expect(t, [][2]string{
		{rows("map 1 3..7 ; x\nwrite -5, 0xff"), "0: 0=k1map 4=k2n1 6=k3n3t7/15: 15=k1write 21=k2-n5 25=k2n255/"},
		{rows(""), ""},
		{rows("\n"), ""},
		{rows("; x\n ,,\n"), ""},
		{rows(";"), ""},
		{rows(" "), ""},
		{rows("+7"), "0: 0=k2n7/"},
		{rows("+0"), "0: 0=k2/"},
		{rows("0"), "0: 0=k2/"},
		{rows("-1"), "0: 0=k2-n1/"},
		{rows("+0x10"), "0: 0=k2n16/"},
		{rows("-0x10"), "0: 0=k2-n16/"},
		{rows("0..0"), "0: 0=k3/"},
		{rows("0x0..0x00"), "0: 0=k3/"},
		{rows("0xa..11"), "0: 0=k3n10t11/"},
		{rows("18446744073709551615..0xffffffffffffffff"), "0: 0=k3n18446744073709551615t18446744073709551615/"},
		{rows("-18446744073709551615"), "0: 0=k2-n18446744073709551615/"},
		{rows(",, a,b  , c_9 ,"), "0: 3=k1a 5=k1b 10=k1c_9/"},
		{rows("\n\n a;b c;d\n\nx"), "2: 3=k1a/12: 12=k1x/"},
		{rows("a\n b\n"), "0: 0=k1a/2: 3=k1b/"},
		{rows("a;" + repeat("?", 998)), "0: 0=k1a/"},
		{rows("a2345678901234_6"), "0: 0=k1a2345678901234_6/"},
		{rows("a;A -0 \t 7..3\nb"), "0: 0=k1a/14: 14=k1b/"},
		{rows("x\n" + blanks(999) + "y\n" + blanks(1000) + "\nz"), "0: 0=k1x/2: 1001=k1y/2004: 2004=k1z/"},
	})
}

func TestRowsForm(t *testing.T) {
	for _, s := range []string{"7..3", "-0", "-0x0", "-0x000", "0x", "0x,", "3..", "..3", "..", "A", "1..2..3", "0x1FF", "0X1", "00", "07", "+07", "-07", "+", "-", "--1", "+-1", "-+1", "++1", "+x", "-x", "+a", "-1..2", "1..-2", "+1..2", "1..+2", "1...2", "1.2", "1.", ".1", "a..b", "1..a", "a..1", "1a", "9_", "_a", "_", "a-b", "a.b", "aB", "a+", "é", "aé", "\t", "a\tb", "\r", "a\r", "a\x00", "\x00", "\xff", "a2345678901234567", "18446744073709551616", "99999999999999999999", "0x10000000000000000", "0x00000000000000000", "0xg", "0x-1", "0x 1", "1:2", "/", ":", "07..8", "7..08", "0x..1", "1..0x", "2..0x1", "0xfg", "@", "[", "`", "{", "a{", "a[", "a/", "a:", "18446744073709551616..18446744073709551617", "36893488147419103232", "*"} {
		if got := rows(s); s != "0x 1" && got != "{form 0}" {
			t.Errorf("%q: %s", s, got)
		}
		if got := rows("ab 12,\n 1 , " + s + " 5 A"); got != "{form 12}" {
			t.Errorf("%q: %s", s, got)
		}
	}
	expect(t, [][2]string{
		{rows("a 07"), "{form 2}"},
		{rows("a B C\nD"), "{form 2}"},
		{rows("a\nb " + repeat("c", 17) + "\n" + repeat("d", 1001)), "{form 4}"},
	})
}

func TestRowsLong(t *testing.T) {
	expect(t, [][2]string{
		{rows(blanks(1000)), ""},
		{rows(blanks(1001)), "{long 0}"},
		{rows("A" + blanks(1000)), "{long 0}"},
		{rows(";" + repeat("A", 1000)), "{long 0}"},
		{rows("a\n\n" + blanks(1001) + "\nB"), "{long 3}"},
		{rows("a\nB\n" + blanks(1001)), "{form 2}"},
		{rows(repeat("\n", 20000)), ""},
		{rows(repeat("\n", 20001)), "{long 20000}"},
		{rows("A" + repeat("\n", 20000)), "{long 20000}"},
		{rows(blanks(20001)), "{long 20000}"},
		{rows(lines(999, 19) + repeat("a", 16)), "{form 0}"},
		{rows(repeat(repeat("a", 9)+"\n", 1999) + "bbbbbbbbbB"), "{form 19990}"},
	})
}

// P5.2

func TestSound(t *testing.T) {
	for _, w := range []api.Word{name("a"), name("a2345678901234_6"), num(0), num(math.MaxUint64), minus(1), minus(math.MaxUint64), span(0, 0), span(3, 7), span(0, math.MaxUint64), {At: -7, Kind: 2}, {At: math.MaxInt, Kind: 1, Name: "z9_"}} {
		if err := row.Sound(w); err != api.OK {
			t.Error(w, err)
		}
	}
	for _, w := range []api.Word{{Kind: 1}, name("A"), name("9a"), name("a b"), name("a2345678901234567"), name("_"), {Kind: 1, Name: "a", Minus: true}, {Kind: 1, Name: "a", N: 1}, {Kind: 1, Name: "a", To: 1}, {Kind: 2, Name: "a"}, {Kind: 2, Minus: true}, {Kind: 2, To: 1}, {Kind: 2, N: 3, To: 7}, {Kind: 3, Name: "a"}, {Kind: 3, Minus: true}, {Kind: 3, N: 1, To: 5, Minus: true}, span(7, 3), span(1, 0), span(math.MaxUint64, 0)} {
		if err := row.Sound(w); err != api.ErrForm {
			t.Error(w, err)
		}
		if s, err := row.Text(oneRow(num(1), w)); s != "" || err != api.ErrForm {
			t.Error(w, s, err)
		}
	}
	for _, k := range []int{0, 4, -1, math.MinInt, math.MaxInt, 1<<32 + 1} {
		w := api.Word{Kind: k, Name: "A", Minus: true}
		if err := row.Sound(w); err != api.ErrKind {
			t.Error(w, err)
		}
		if s, err := row.Text(oneRow(num(1), w)); s != "" || err != api.ErrKind {
			t.Error(w, s, err)
		}
	}
}

func TestText(t *testing.T) {
	big := repeat("a2345678901234_6 ", 58) + "a234567890123" // 999 bytes
	var words []api.Word
	for _, s := range strings.Fields(big) {
		words = append(words, name(s))
	}
	full := append(words[:58:58], name("a2345678901234"))
	long := append(words[:58:58], name("a23456789012345"))
	filled := func(n int) (l []api.Row) {
		for range n {
			l = append(l, api.Row{Words: full})
		}
		return l
	}
	tail := api.Row{Words: append(words[:56:56], name("a2345678901234"), minus(9), num(7))}
	expect(t, [][2]string{
		{say(row.Text([]api.Row{{At: 9, Words: []api.Word{minus(5), span(3, 7)}}})), "-5 3..7\n ok"},
		{say(row.Text(nil)), " ok"},
		{say(row.Text([]api.Row{{}})), " form"},
		{say(row.Text([]api.Row{{Words: []api.Word{num(1)}}, {}})), " form"},
		{say(row.Text(append(oneRow(name("a")), oneRow(num(0), span(0, 0), minus(math.MaxUint64))...))), "a\n0 0..0 -18446744073709551615\n ok"},
		{say(textErr(oneRow(append(long, num(0))...))), "long"},
		{say(textErr(oneRow(append(long, api.Word{})...))), "kind"},
		{say(len(text(oneRow(full...))), textErr(oneRow(full...))), "1001 ok"},
		{say(len(text(oneRow(long...))), textErr(oneRow(long...))), "0 long"},
		{say(len(text(append(filled(19), tail))), textErr(append(filled(19), tail))), say(19*1001+56*17+14+1+2+1+1+1, "ok")},
		{say(len(text(filled(19))), textErr(filled(19))), "19019 ok"},
		{say(textErr(filled(20))), "long"},
		{say(textErr(append(filled(20), api.Row{}))), "long"},
		{say(textErr(append(filled(19), api.Row{}, full2(full)))), "form"},
	})
	exact := append(filled(19), oneRow(append(words[:57:57], name("a23456789"), num(1))...)...) // 981 bytes, with its line feed
	expect(t, [][2]string{{say(len(text(exact)), textErr(exact)), "20000 ok"}})
	exact[19].Words[58] = num(11)
	expect(t, [][2]string{{say(len(text(exact)), textErr(exact)), "0 long"}})
}

func full2(l []api.Word) api.Row { return api.Row{Words: l} }

// P5.3

func TestNames(t *testing.T) {
	for b := range 256 {
		c := string([]byte{byte(b)})
		letter := strings.Contains("abcdefghijklmnopqrstuvwxyz", c)
		inner := letter || strings.Contains("0123456789_", c)
		if row.Name(c) != letter || row.Name("a"+c) != inner || row.Name("a"+c+"z") != inner {
			t.Errorf("%q", c)
		}
		digit := b >= '0' && b <= '9'
		if n, ok := row.Number(c); ok != digit || digit && n != uint64(b-'0') || !digit && n != 0 {
			t.Errorf("%q: %d %v", c, n, ok)
		}
		hex := digit || b >= 'a' && b <= 'f'
		if n, ok := row.Number("0x1" + c); ok != hex || !ok && n != 0 || ok && fmt.Sprintf("1%s", c) != fmt.Sprintf("%x", n) {
			t.Errorf("%q: %d %v", c, n, ok)
		}
	}
	for n := range 20 {
		if got := row.Name(repeat("z", n)); got != (n >= 1 && n <= 16) {
			t.Error(n, got)
		}
	}
}

func TestNumber(t *testing.T) {
	limit := new(big.Int).Lsh(big.NewInt(1), 64)
	for _, base := range []int64{0, 1, 9, 10, 99, 1 << 31, 1 << 32, math.MaxInt64} {
		for d := int64(-3); d < 4; d++ {
			for _, x := range []*big.Int{big.NewInt(base + min(d, 0)), new(big.Int).Add(big.NewInt(base), big.NewInt(d)), new(big.Int).Add(limit, big.NewInt(d)), new(big.Int).Add(new(big.Int).Mul(limit, big.NewInt(3)), big.NewInt(d+base))} {
				fits := x.Sign() >= 0 && x.Cmp(limit) < 0
				want := uint64(0)
				if fits {
					want = x.Uint64()
				}
				if n, ok := row.Number(x.String()); ok != fits || n != want {
					t.Error(x, n, ok)
				}
				if n, ok := row.Number("0x" + x.Text(16)); ok != fits || n != want {
					t.Errorf("%x: %d %v", x, n, ok)
				}
			}
		}
	}
	expect(t, [][2]string{
		{say(row.Number("18446744073709551615")), "18446744073709551615 true"},
		{say(row.Number("18446744073709551616")), "0 false"},
		{say(row.Number("18446744073709551620")), "0 false"},
		{say(row.Number("184467440737095516150")), "0 false"},
		{say(row.Number("0xffffffffffffffff")), "18446744073709551615 true"},
		{say(row.Number("0x00")), "0 true"},
		{say(row.Number("0x0000000000000001")), "1 true"},
		{say(row.Number("0x00000000000000001")), "0 false"},
		{say(row.Number("00")), "0 false"},
		{say(row.Number("")), "0 false"},
		{say(row.Number("+1")), "0 false"},
		{say(row.Number("-1")), "0 false"},
		{say(row.Number(" 1")), "0 false"},
		{say(row.Number("1 ")), "0 false"},
		{say(row.Number("0x")), "0 false"},
	})
}

// P5.4

func TestInt(t *testing.T) {
	expect(t, [][2]string{
		{say(row.Int(minus(5), -5, 5)), "-5 ok"},
		{say(row.Int(minus(5), -4, 5)), "0 range"},
		{say(row.Int(num(5), -4, 5)), "5 ok"},
		{say(row.Int(num(6), -4, 5)), "0 range"},
		{say(row.Int(num(0), 1, 5)), "0 range"},
		{say(row.Int(num(3), 5, 1)), "0 range"},
		{say(row.Int(span(3, 7), 0, 9)), "0 kind"},
		{say(row.Int(name("a"), 0, 9)), "0 kind"},
		{say(row.Int(name("A"), 0, 9)), "0 form"},
		{say(row.Int(api.Word{}, 0, 9)), "0 kind"},
		{say(row.Int(api.Word{Kind: 2, Minus: true}, -9, 9)), "0 form"},
		{say(row.Int(num(math.MaxInt64), math.MinInt, math.MaxInt)), "9223372036854775807 ok"},
		{say(row.Int(num(1<<63), math.MinInt, math.MaxInt)), "0 range"},
		{say(row.Int(num(math.MaxUint64), math.MinInt, math.MaxInt)), "0 range"},
		{say(row.Int(minus(1<<63), math.MinInt, math.MaxInt)), "-9223372036854775808 ok"},
		{say(row.Int(minus(1<<63), math.MinInt+1, math.MaxInt)), "0 range"},
		{say(row.Int(minus(1<<63+1), math.MinInt, math.MaxInt)), "0 range"},
		{say(row.Int(minus(math.MaxUint64), math.MinInt, math.MaxInt)), "0 range"},
		{say(row.Int(minus(math.MaxUint64), 1, 1)), "0 range"},
		{say(row.Int(num(math.MaxUint64), -1, -1)), "0 range"},
	})
}

func TestSpan(t *testing.T) {
	expect(t, [][2]string{
		{say(row.Span(span(3, 7), 7)), "{3 7} ok"},
		{say(row.Span(num(4), 7)), "{4 4} ok"},
		{say(row.Span(num(0), 0)), "{0 0} ok"},
		{say(row.Span(num(0), -1)), "{0 0} range"},
		{say(row.Span(span(3, 7), 6)), "{0 0} range"},
		{say(row.Span(num(8), 7)), "{0 0} range"},
		{say(row.Span(name("a"), 9)), "{0 0} kind"},
		{say(row.Span(minus(4), 9)), "{0 0} kind"},
		{say(row.Span(minus(4), -9)), "{0 0} kind"},
		{say(row.Span(span(7, 3), 9)), "{0 0} form"},
		{say(row.Span(api.Word{Kind: 9}, 9)), "{0 0} kind"},
		{say(row.Span(span(1, math.MaxInt64), math.MaxInt)), "{1 9223372036854775807} ok"},
		{say(row.Span(span(1, 1<<63), math.MaxInt)), "{0 0} range"},
		{say(row.Span(num(math.MaxUint64), math.MaxInt)), "{0 0} range"},
		{say(row.Span(num(math.MaxUint64), -1)), "{0 0} range"},
	})
}

// some returns rows of sound words, always the same ones for a number.
func some(seed uint64) []api.Row {
	r := rand.New(rand.NewPCG(seed, 5))
	var l []api.Row
	for range r.IntN(5) {
		var words []api.Word
		for range 1 + r.IntN(6) {
			n := r.Uint64() >> r.IntN(64)
			words = append(words, []api.Word{name("abc_" + fmt.Sprint(n%1000)), num(n), minus(n | 1), span(n/2, n), num(0), name("z")}[r.IntN(6)])
		}
		l = append(l, api.Row{At: r.IntN(9), Words: words})
	}
	return l
}

// write writes rows with numbers of all sorts, and much that means nothing.
func write(l []api.Row, r *rand.Rand) string {
	var b strings.Builder
	noise := func(l ...string) { b.WriteString(l[r.IntN(len(l))]) }
	digits := func(n uint64) string {
		return []string{fmt.Sprint(n), fmt.Sprintf("%#x", n), fmt.Sprintf("0x%016x", n)}[r.IntN(3)]
	}
	for _, row := range l {
		noise("", "\n", "; A -0\n", " ,\n", " ")
		for _, w := range row.Words {
			switch {
			case w.Kind == api.IsName:
				b.WriteString(w.Name)
			case w.Kind == api.IsSpan:
				b.WriteString(digits(w.N) + ".." + digits(w.To))
			case w.Minus:
				b.WriteString("-" + digits(w.N))
			default:
				noise("", "+")
				b.WriteString(digits(w.N))
			}
			noise(" ", ",", "  ,", ", ")
		}
		noise("\n", ";\n", "; 7..3 ;\n", ",,\n\n")
	}
	return b.String()
}

// P5.5, P5.6, P5.7, P5.8

func TestTheorems(t *testing.T) {
	for seed := range uint64(1500) {
		l := some(seed)
		s, err := row.Text(l)
		if err != api.OK {
			t.Fatal(l, err)
		}
		back, f := row.Rows(s)
		if f != (api.Fault{}) || say(without(back)) != say(without(l)) {
			t.Fatal(l, s, back, f)
		}
		if again, err := row.Text(back); again != s || err != api.OK {
			t.Fatal(s, again, err)
		}
		noisy := write(l, rand.New(rand.NewPCG(seed, 6)))
		if back, f := row.Rows(noisy); f != (api.Fault{}) || say(without(back)) != say(without(l)) {
			t.Fatalf("%q: %v %v", noisy, back, f)
		}
	}
}

func TestUnchanged(t *testing.T) {
	l := some(7)
	before := say(l)
	row.Text(l)
	if say(l) != before {
		t.Error(l)
	}
}

// The examples of the chapter that are not above.

func TestExamples(t *testing.T) {
	expect(t, [][2]string{
		{say(row.Sound(api.Word{Kind: 2, Minus: true})), "form"},
		{say(row.Sound(api.Word{Kind: 4})), "kind"},
		{rows("0x1FF"), "{form 0}"},
	})
}
