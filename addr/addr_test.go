package addr_test

import (
	"fmt"
	"math"
	"slices"
	"strings"
	"testing"

	"headgate/addr"
	"headgate/api"
)

// say writes values with blanks between them, errors by their names.
func say(l ...any) string { return strings.TrimSuffix(fmt.Sprintln(l...), "\n") }

// expect compares what calls gave with what they should give.
func expect(t *testing.T, l [][2]string) {
	t.Helper()
	for i, c := range l {
		if c[0] != c[1] {
			t.Errorf("case %d: %q, not %q", i, c[0], c[1])
		}
	}
}

// far are numbers that are neither pages nor anything smaller.
var far = []int{math.MinInt, -1 << 32, -1 << 31, -64, -8, -1, 512, 513, 1 << 31, 1 << 32, 1<<32 + 1, 1 << 60, math.MaxInt}

// ranges calls f for all valid ranges.
func ranges(f func(r api.Range)) {
	for from := range 64 {
		for to := from; to < 64; to++ {
			f(api.Range{From: from, To: to})
		}
	}
}

// bad are ranges that are not valid.
var bad = []api.Range{{From: 1}, {From: 5, To: 4}, {From: -1, To: 3}, {From: -1, To: -1}, {From: 0, To: 64}, {From: 64, To: 64}, {From: 63, To: 62}, {From: 70, To: 3}, {From: math.MinInt, To: 0}, {From: 0, To: math.MaxInt}, {From: 1 << 32, To: 1 << 32}, {From: math.MaxInt, To: math.MinInt}, {From: 0, To: math.MinInt}}

// P3.1

func TestCheck(t *testing.T) {
	for from := -2; from < 68; from++ {
		for to := -2; to < 68; to++ {
			want := api.ErrRange
			if 0 <= from && from <= to && to <= 63 {
				want = api.OK
			}
			if err := addr.Check(api.Range{From: from, To: to}); err != want {
				t.Error(from, to, err)
			}
		}
	}
	for _, r := range bad {
		if err := addr.Check(r); err != api.ErrRange {
			t.Error(r, err)
		}
	}
}

// P3.1, P3.4

func TestNumbers(t *testing.T) {
	for page := range 64 {
		leaf, index, err := addr.Leaf(page)
		if leaf != page/8 || index != page%8 || err != api.OK {
			t.Error(page, leaf, index, err)
		}
		if back, err := addr.Page(leaf, index); back != page || err != api.OK {
			t.Error(leaf, index, back, err)
		}
		for word := range 8 {
			a, err := addr.Address(page, word)
			if a != 8*page+word || err != api.OK {
				t.Error(page, word, a, err)
			}
			if p, w, err := addr.Where(a); p != page || w != word || err != api.OK {
				t.Error(a, p, w, err)
			}
		}
	}
	for _, n := range append([]int{64, 8}, far...) {
		if n != 8 {
			if leaf, index, err := addr.Leaf(n); leaf != 0 || index != 0 || err != api.ErrRange {
				t.Error("Leaf", n, leaf, index, err)
			}
			if a, err := addr.Address(n, 1); a != 0 || err != api.ErrRange {
				t.Error("Address", n, a, err)
			}
		}
		if a, err := addr.Address(1, n); a != 0 || err != api.ErrRange {
			t.Error("Address", 1, n, a, err)
		}
		for _, p := range [][2]int{{n, 1}, {1, n}, {n, n}} {
			if page, err := addr.Page(p[0], p[1]); page != 0 || err != api.ErrRange {
				t.Error("Page", p, page, err)
			}
		}
		if n != 64 && n != 8 {
			if p, w, err := addr.Where(n); p != 0 || w != 0 || err != api.ErrRange {
				t.Error("Where", n, p, w, err)
			}
		}
	}
}

// P3.2, P3.5

func TestPieces(t *testing.T) {
	ranges(func(r api.Range) {
		l, err := addr.Pieces(r)
		cover, coverErr := addr.Cover([]api.Range{r})
		if err != api.OK || coverErr != api.OK || len(l) != r.To/8-r.From/8+1 || len(cover) != len(l) {
			t.Fatal(r, l, err, cover, coverErr)
		}
		next := r.From
		for i, p := range l {
			if p.From != next || p.To < p.From || p.From/8 != p.To/8 || cover[i] != p.From/8 {
				t.Fatal(r, l, cover)
			}
			next = p.To + 1
		}
		if next != r.To+1 {
			t.Fatal(r, l)
		}
	})
	for _, r := range bad {
		if l, err := addr.Pieces(r); len(l) != 0 || err != api.ErrRange {
			t.Error(r, l, err)
		}
	}
}

func TestCover(t *testing.T) {
	for seed := range 500 {
		var l []api.Range
		var want []int
		for i := range seed % 6 {
			from := (seed*37 + i*i*29 + i*5) % 64
			l = append(l, api.Range{From: from, To: min(63, from+(seed+7*i)%13)})
			for leaf := l[i].From / 8; leaf <= l[i].To/8; leaf++ {
				want = append(want, leaf)
			}
		}
		slices.Sort(want)
		want = slices.Compact(want)
		if got, err := addr.Cover(l); !slices.Equal(got, want) || err != api.OK {
			t.Error(l, got, err, want)
		}
	}
	good := slices.Repeat([]api.Range{{From: 3, To: 9}}, 64)
	for i, r := range bad {
		l := slices.Clone(good)
		l[i] = r
		if got, err := addr.Cover(l); len(got) != 0 || err != api.ErrRange {
			t.Error(r, got, err)
		}
		if got, err := addr.Cover(append(l, r)); len(got) != 0 || err != api.ErrFull {
			t.Error(r, got, err)
		}
	}
	expect(t, [][2]string{
		{say(addr.Cover(good)), "[0 1] ok"},
		{say(addr.Cover(append(good, good[0]))), "[] full"},
	})
}

// P3.2, P3.6

func TestOverlap(t *testing.T) {
	ranges(func(a api.Range) {
		for from := 0; from < 64; from += 3 {
			for to := from; to < 64; to += 5 {
				b := api.Range{From: from, To: to}
				in := 0
				for page := range 64 {
					if a.From <= page && page <= a.To && from <= page && page <= to {
						in++
					}
				}
				got, ok, err := addr.Overlap(a, b)
				back, okBack, errBack := addr.Overlap(b, a)
				if got != back || ok != okBack || err != api.OK || errBack != api.OK || ok != (in > 0) {
					t.Fatal(a, b, got, ok, err, back, okBack, errBack)
				}
				if !ok && got != (api.Range{}) || ok && (got.To-got.From+1 != in || got.From < max(a.From, from) || got.To > min(a.To, to)) {
					t.Fatal(a, b, got, in)
				}
			}
		}
	})
	for _, r := range bad {
		for _, p := range [][2]api.Range{{r, {From: 1, To: 2}}, {{From: 1, To: 2}, r}, {r, r}} {
			if got, ok, err := addr.Overlap(p[0], p[1]); got != (api.Range{}) || ok || err != api.ErrRange {
				t.Error(p, got, ok, err)
			}
		}
	}
}

// P3.3, P3.7

func TestText(t *testing.T) {
	texts := map[string]bool{}
	ranges(func(r api.Range) {
		want := fmt.Sprint(r.From, "..", r.To)
		if r.From == r.To {
			want = fmt.Sprint(r.From)
		}
		want = strings.ReplaceAll(want, " ", "")
		s, err := addr.Text(r)
		if s != want || err != api.OK || texts[s] {
			t.Error(r, s, err)
		}
		texts[s] = true
		if back, err := addr.Parse(s); back != r || err != api.OK {
			t.Error(s, back, err)
		}
		if back, err := addr.Parse(fmt.Sprintf("%d..%d", r.From, r.To)); back != r || err != api.OK {
			t.Error(r, back, err)
		}
	})
	for _, r := range bad {
		if s, err := addr.Text(r); s != "" || err != api.ErrRange {
			t.Error(r, s, err)
		}
	}
}

func TestParseErrors(t *testing.T) {
	for _, s := range []string{"", ".", "..", "...", "5.", "5..", "..5", "5...6", "5....6", "5.6", "5..6..7", "5..6..", "05", "00", "5..06", "05..6", "5..00", " 5", "5 ", "5 ..6", "5.. 6", "-5", "+5", "5..+6", "-5..6", "5-6", "a", "5a", "a5", "5..a", "5:6", "/", ":", "5/", "5:", "٣", "\x00", "5\x00", "1234567890123456789", "1..1234567890123456789", "0000000000000000000", "99999999999999999999999999", "0x5", "5,6"} {
		if r, err := addr.Parse(s); r != (api.Range{}) || err != api.ErrForm {
			t.Errorf("%q: %v %v", s, r, err)
		}
	}
	for _, s := range []string{"64", "999", "5..64", "64..5", "64..64", "7..6", "63..0", "123456789012345678", "999999999999999999..999999999999999999", "0..100000000000000000", "4294967296", "0..4294967297"} {
		if r, err := addr.Parse(s); r != (api.Range{}) || err != api.ErrRange {
			t.Errorf("%q: %v %v", s, r, err)
		}
	}
}

// The examples of the chapter.

func TestExamples(t *testing.T) {
	r := func(from, to int) api.Range { return api.Range{From: from, To: to} }
	expect(t, [][2]string{
		{say(addr.Leaf(0)), "0 0 ok"},
		{say(addr.Leaf(13)), "1 5 ok"},
		{say(addr.Leaf(63)), "7 7 ok"},
		{say(addr.Leaf(64)), "0 0 range"},
		{say(addr.Page(1, 5)), "13 ok"},
		{say(addr.Page(1, 8)), "0 range"},
		{say(addr.Address(13, 2)), "106 ok"},
		{say(addr.Where(106)), "13 2 ok"},
		{say(addr.Where(512)), "0 0 range"},
		{say(addr.Pieces(r(5, 20))), "[{5 7} {8 15} {16 20}] ok"},
		{say(addr.Pieces(r(8, 15))), "[{8 15}] ok"},
		{say(addr.Pieces(r(7, 8))), "[{7 7} {8 8}] ok"},
		{say(addr.Cover([]api.Range{r(5, 20), r(60, 63)})), "[0 1 2 7] ok"},
		{say(addr.Cover(nil)), "[] ok"},
		{say(addr.Cover([]api.Range{r(5, 4)})), "[] range"},
		{say(addr.Overlap(r(5, 20), r(18, 30))), "{18 20} true ok"},
		{say(addr.Overlap(r(5, 7), r(8, 9))), "{0 0} false ok"},
		{say(addr.Text(r(5, 5))), "5 ok"},
		{say(addr.Parse("5..5")), "{5 5} ok"},
		{say(addr.Parse("05")), "{0 0} form"},
		{say(addr.Parse("5..")), "{0 0} form"},
		{say(addr.Parse("5...6")), "{0 0} form"},
		{say(addr.Parse("5..64")), "{0 0} range"},
		{say(addr.Parse("7..6")), "{0 0} range"},
	})
}
