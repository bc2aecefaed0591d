package region_test

import (
	"fmt"
	"math"
	"math/rand/v2"
	"slices"
	"strconv"
	"strings"
	"testing"

	"headgate/api"
	"headgate/region"
)

// say writes values with blanks between them, errors by their names.
func say(l ...any) string { return strings.TrimSuffix(fmt.Sprintln(l...), "\n") }

// expect compares what calls gave with what they should give.
func expect(t *testing.T, l [][2]string) {
	t.Helper()
	for i, c := range l {
		if c[0] != c[1] {
			t.Fatalf("case %d: %.500q, not %.500q", i, c[0], c[1])
		}
	}
}

// pages is a set of pages as truth values.
type pages [64]bool

// list returns the regions of a set.
func (p pages) list() []api.Range {
	var l []api.Range
	for i, in := range p {
		if in && (i == 0 || !p[i-1]) {
			l = append(l, api.Range{From: i})
		}
		if in {
			l[len(l)-1].To = i
		}
	}
	return l
}

func (p pages) count() (n int) {
	for _, in := range p {
		if in {
			n++
		}
	}
	return n
}

// some returns a set, always the same one for a number.
func some(seed uint64) pages {
	r := rand.New(rand.NewPCG(seed, 24))
	var p pages
	unit, share := 1+r.IntN(9), r.IntN(11)
	for i := range p {
		p[i] = i%unit != 0 && p[i-1] || i%unit == 0 && r.IntN(10) < share
	}
	if seed%7 == 0 {
		p[r.IntN(64)], p[63], p[0] = true, seed%2 == 0, seed%3 == 0
	}
	return p
}

// of reads regions as the chapter writes them.
func of(s string) []api.Range {
	var l []api.Range
	for _, w := range strings.Fields(s) {
		from, to, two := strings.Cut(w, "-")
		if !two {
			to = from
		}
		a, _ := strconv.Atoi(from)
		b, _ := strconv.Atoi(to)
		l = append(l, api.Range{From: a, To: b})
	}
	return l
}

// show writes regions like that.
func show(l []api.Range) string {
	var words []string
	for _, r := range l {
		w := strconv.Itoa(r.From)
		if r.To != r.From {
			w += "-" + strconv.Itoa(r.To)
		}
		words = append(words, w)
	}
	return strings.Join(words, " ")
}

func list(l []api.Range, err api.Errno) string { return say(show(l), err) }
func fault(l []api.Range, f api.Fault) string  { return say(show(l), f) }

// scribble writes over a result, and checks that the argument does not notice.
func scribble(t *testing.T, arg []api.Range, before string, result []api.Range) {
	t.Helper()
	for i := range result {
		result[i] = api.Range{From: 777}
	}
	_ = append(result, api.Range{From: 778})
	if say(arg) != before {
		t.Fatal("an argument was changed")
	}
}

var far = []int{math.MinInt, -1 << 32, -1, 64, 65, 1 << 32, 1<<32 + 1, math.MaxInt - 1, math.MaxInt}

// P24.1

func TestCheck(t *testing.T) {
	r := func(l ...int) (ranges []api.Range) {
		for i := 0; i < len(l); i += 2 {
			ranges = append(ranges, api.Range{From: l[i], To: l[i+1]})
		}
		return ranges
	}
	for _, c := range []struct {
		l    []api.Range
		want string
	}{
		{nil, "ok 0"}, {r(0, 63), "ok 0"}, {r(0, 0, 2, 2, 63, 63), "ok 0"},
		{r(0, 64), "range 0"}, {r(-1, 3), "range 0"}, {r(5, 4), "range 0"}, {r(64, 64), "range 0"},
		{r(0, 3, 4, 5), "order 1"}, {r(0, 3, 3, 5), "order 1"}, {r(4, 5, 0, 1), "order 1"}, {r(4, 5, 4, 5), "order 1"}, {r(0, 3, 5, 5, 6, 7), "order 2"}, {r(0, 3, 2, 1), "range 1"}, {r(0, 3, 4, 64), "range 1"}, {r(0, 3, 4, 5, 9, 99), "order 1"}, {r(3, 9, 5, 6), "order 1"},
		{r(math.MinInt, 0), "range 0"}, {r(0, math.MaxInt), "range 0"}, {r(math.MaxInt, math.MaxInt), "range 0"}, {r(0, math.MinInt), "range 0"}, {r(1, 1, math.MinInt, 5), "range 1"},
	} {
		expect(t, [][2]string{{say(region.Check(c.l)), c.want}})
		if e := strings.Fields(c.want)[0]; e != "ok" {
			for _, n := range []int{0, 5, 99} {
				expect(t, [][2]string{
					{say(region.Has(c.l, n)), "false " + e},
					{say(region.Map(c.l, n, n, n)), "[] " + e},
					{say(region.Unmap(c.l, n, n)), "[] " + e},
					{say(region.Total(c.l)), "0 " + e},
					{say(region.Gaps(c.l)), "[] " + e},
					{say(region.Fit(c.l, n)), "0 " + e},
					{say(region.Groups(c.l)), "[] " + e},
					{say(region.Text(c.l)), " " + e},
				})
			}
		}
	}
}

// P24.2, P24.5

func TestMapUnmap(t *testing.T) {
	for seed := range uint64(50) {
		p := some(seed)
		l := p.list()
		before := say(l)
		for from := range 64 {
			expect(t, [][2]string{{say(region.Has(l, from)), say(p[from], "ok")}})
			for to := from; to < 64; to++ {
				in := 0
				for _, x := range p[from : to+1] {
					if x {
						in++
					}
				}
				more, less := p, p
				for i := from; i <= to; i++ {
					more[i], less[i] = true, false
				}
				total := p.count() + to - from + 1
				for _, most := range []int{total, total - 1, 64, -5, math.MaxInt, math.MinInt} {
					want := list(more.list(), api.OK)
					switch {
					case in > 0:
						want = " exists"
					case total > most:
						want = " full"
					}
					got, err := region.Map(l, from, to, most)
					expect(t, [][2]string{{list(got, err), want}})
					if err == api.OK {
						expect(t, [][2]string{{list(region.Unmap(got, from, to)), list(l, api.OK)}})
						scribble(t, l, before, got)
					}
				}
				want := " missing"
				if in == to-from+1 {
					want = list(less.list(), api.OK)
				}
				got, err := region.Unmap(l, from, to)
				expect(t, [][2]string{{list(got, err), want}})
				if err == api.OK {
					expect(t, [][2]string{{list(region.Map(got, from, to, 64)), list(l, api.OK)}})
					scribble(t, l, before, got)
				}
			}
		}
		for _, n := range far {
			expect(t, [][2]string{
				{say(region.Has(l, n)), "false range"},
				{say(region.Map(l, n, 5, 64)), "[] range"},
				{say(region.Map(l, 5, n, 64)), "[] range"},
				{say(region.Map(l, n, n, 64)), "[] range"},
				{say(region.Unmap(l, n, 5)), "[] range"},
				{say(region.Unmap(l, 5, n)), "[] range"},
			})
		}
		expect(t, [][2]string{{say(region.Map(l, 6, 5, 64)), "[] range"}, {say(region.Unmap(l, 6, 5)), "[] range"}})
	}
}

// P24.3, P24.6, P24.9

func TestLooks(t *testing.T) {
	for seed := range uint64(300) {
		p := some(seed)
		l := p.list()
		var gaps pages
		var groups []int
		for i, in := range p {
			gaps[i] = !in
			if in && !slices.Contains(groups, i/8) {
				groups = append(groups, i/8)
			}
		}
		expect(t, [][2]string{
			{say(region.Total(l)), say(p.count(), "ok")},
			{list(region.Gaps(l)), list(gaps.list(), api.OK)},
			{list(region.Gaps(gaps.list())), list(l, api.OK)},
			{say(region.Groups(l)), say(groups, "ok")},
		})
		for n := 1; n <= 64; n++ {
			best, length := 0, 99
			for _, g := range gaps.list() {
				if size := g.To - g.From + 1; size >= n && size < length {
					best, length = g.From, size
				}
			}
			if length == 99 {
				expect(t, [][2]string{{say(region.Fit(l, n)), "0 full"}})
				continue
			}
			expect(t, [][2]string{{say(region.Fit(l, n)), say(best, "ok")}})
			if _, err := region.Map(l, best, best+n-1, 64); err != api.OK {
				t.Fatal(l, n, best, err)
			}
		}
		for _, n := range append([]int{0, 65}, far...) {
			if n != 64 {
				expect(t, [][2]string{{say(region.Fit(l, n)), "0 range"}})
			}
		}
	}
}

// P24.7

func TestTheoremParts(t *testing.T) {
	r := rand.New(rand.NewPCG(24, 24))
	for seed := range uint64(200) {
		p := some(seed)
		var l []api.Range
		var parts []api.Range
		for i := 0; i < 64; {
			if !p[i] {
				i++
				continue
			}
			to := i
			for to < 63 && p[to+1] && r.IntN(3) > 0 {
				to++
			}
			parts = append(parts, api.Range{From: i, To: to})
			i = to + 1
		}
		r.Shuffle(len(parts), func(a, b int) { parts[a], parts[b] = parts[b], parts[a] })
		for _, q := range parts {
			next, err := region.Map(l, q.From, q.To, 64)
			if err != api.OK {
				t.Fatal(l, q, err)
			}
			l = next
		}
		expect(t, [][2]string{{show(l), show(p.list())}})
	}
}

// P24.4, P24.8

func TestTextParse(t *testing.T) {
	for seed := range uint64(400) {
		l := some(seed).list()
		expect(t, [][2]string{{say(region.Text(l)), show(l) + " ok"}, {fault(region.Parse(show(l))), show(l) + " {ok 0}"}})
	}
	var odd pages
	for i := range odd {
		odd[i] = i%2 == 1
	}
	expect(t, [][2]string{{fault(region.Parse(show(odd.list()))), show(odd.list()) + " {ok 0}"}})
	for _, c := range [][2]string{
		{"", " {ok 0}"}, {"5-5", "5 {ok 0}"}, {"0", "0 {ok 0}"}, {"0-0 2-2", "0 2 {ok 0}"}, {"63", "63 {ok 0}"},
		{"3-7 9", "3-7 9 {ok 0}"}, {"3-7 8", " {order 4}"}, {"3-", " {form 2}"}, {"7-3", " {range 0}"}, {"03", " {form 1}"},
		{" ", " {form 0}"}, {" 3", " {form 0}"}, {"3 ", " {form 2}"}, {"3  5", " {form 2}"}, {"-", " {form 0}"}, {"-3", " {form 0}"}, {"3--5", " {form 2}"}, {"3-5-", " {form 3}"}, {"3-5-7", " {form 3}"}, {"3-05", " {form 3}"}, {"3-00", " {form 3}"}, {"00", " {form 1}"}, {"123", " {form 2}"}, {"3-123", " {form 4}"}, {"3a", " {form 1}"}, {"a", " {form 0}"}, {"3,5", " {form 1}"}, {"3\t5", " {form 1}"}, {"3\n", " {form 1}"}, {"3..5", " {form 1}"}, {"3- 5", " {form 2}"}, {"3 -5", " {form 2}"}, {"3-5 ", " {form 4}"}, {"3:", " {form 1}"}, {"3/", " {form 1}"}, {"/", " {form 0}"}, {":", " {form 0}"},
		{"64", " {range 0}"}, {"99", " {range 0}"}, {"3 99", " {range 2}"}, {"3 9-64", " {range 2}"}, {"3 9-8", " {range 2}"}, {"9 3", " {order 2}"}, {"9 9", " {order 2}"}, {"9 10", " {order 2}"}, {"5-9 7", " {order 4}"}, {"9 8 99", " {order 2}"}, {"99 8 7", " {range 0}"}, {"99 8 7x", " {form 6}"}, {"9 8 07", " {form 5}"}, {"1 3 5 6", " {order 6}"},
		{strings.Repeat("9 ", 100) + "9", " {long 200}"},
		{strings.Repeat("x", 201), " {long 200}"},
		{strings.Repeat("x", 200), " {form 0}"},
	} {
		expect(t, [][2]string{{fault(region.Parse(c[0])), c[1]}})
	}
}

// The examples of the chapter.

func TestExamples(t *testing.T) {
	expect(t, [][2]string{
		{list(region.Map(nil, 3, 7, 64)), "3-7 ok"},
		{list(region.Map(of("3-7"), 8, 8, 64)), "3-8 ok"},
		{list(region.Map(of("3-7"), 7, 9, 64)), " exists"},
		{list(region.Map(of("3-7"), 9, 9, 5)), " full"},
		{list(region.Unmap(of("3-7"), 5, 5)), "3-4 6-7 ok"},
		{list(region.Unmap(of("3-7"), 3, 7)), " ok"},
		{list(region.Unmap(of("3-7"), 7, 8)), " missing"},
		{list(region.Unmap(of("3-7"), 7, 6)), " range"},
		{say(region.Total(of("3-7 9"))), "6 ok"},
		{list(region.Gaps(of("3-7 9"))), "0-2 8 10-63 ok"},
		{say(region.Groups(of("3-7 9"))), "[0 1] ok"},
		{say(region.Has(of("3-7 9"), 64)), "false range"},
		{say(region.Fit(of("3-7 9"), 1)), "8 ok"},
		{say(region.Fit(of("3-7 9"), 3)), "0 ok"},
		{say(region.Fit(of("0-63"), 1)), "0 full"},
	})
}
