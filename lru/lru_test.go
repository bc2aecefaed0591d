package lru_test

import (
	"fmt"
	"math"
	"math/rand/v2"
	"slices"
	"strconv"
	"strings"
	"testing"

	"headgate/api"
	"headgate/lru"
)

// say writes values with blanks between them, errors by their names.
func say(l ...any) string { return strings.TrimSuffix(fmt.Sprintln(l...), "\n") }

// expect compares what calls gave with what they should give.
func expect(t *testing.T, l [][2]string) {
	t.Helper()
	for i, c := range l {
		if c[0] != c[1] {
			t.Errorf("case %d: %q, not %q", i, c[0], c[1])
		}
	}
}

// of reads lists of 8 frames as the chapter writes them: active / inactive, * for a referenced one.
func of(s string) api.Lists {
	l := api.Lists{Referenced: make([]bool, 8)}
	parts := strings.Split(s, "/")
	for i, to := range []*[]int{&l.Active, &l.Inactive} {
		for _, w := range strings.Fields(parts[i]) {
			n, _ := strconv.Atoi(strings.TrimSuffix(w, "*"))
			*to = append(*to, n)
			l.Referenced[n] = strings.HasSuffix(w, "*")
		}
	}
	return l
}

// show writes lists like that.
func show(l api.Lists) string {
	if l.Referenced == nil {
		return fmt.Sprint(l)
	}
	part := func(frames []int) (s string) {
		for _, f := range frames {
			s += " " + strconv.Itoa(f)
			if l.Referenced[f] {
				s += "*"
			}
		}
		return s
	}
	return strings.TrimSpace(part(l.Active) + " /" + part(l.Inactive))
}

// lists, listsFrame write results.
func lists(l api.Lists, err api.Errno) string { return show(l) + say("", err) }
func listsFrame(l api.Lists, frame int, err api.Errno) string {
	return show(l) + say("", frame, err)
}

const none = "{[] [] []}"

// P7.1

func TestNewCheck(t *testing.T) {
	for _, n := range []int{1, 8, 255, 256} {
		l, err := lru.New(n)
		if err != api.OK || len(l.Active)+len(l.Inactive) != 0 || len(l.Referenced) != n || slices.Contains(l.Referenced, true) || lru.Check(l) != api.OK {
			t.Error(n, l, err)
		}
	}
	for _, n := range []int{0, -1, 257, math.MaxInt, math.MinInt, 1<<32 + 1} {
		if l, err := lru.New(n); say(l) != none || err != api.ErrRange {
			t.Error(n, l, err)
		}
	}
	flags := func(n int, l ...int) []bool {
		f := make([]bool, n)
		for _, i := range l {
			f[i] = true
		}
		return f
	}
	for _, c := range []struct {
		l   api.Lists
		err api.Errno
	}{
		{api.Lists{}, api.ErrRange},
		{api.Lists{Active: []int{0}, Inactive: []int{0}}, api.ErrRange},
		{api.Lists{Referenced: flags(257, 3)}, api.ErrRange},
		{api.Lists{Active: []int{255}, Inactive: []int{0}, Referenced: flags(256, 0, 255)}, api.OK},
		{api.Lists{Active: []int{4}, Referenced: flags(4)}, api.ErrRange},
		{api.Lists{Active: []int{-1}, Referenced: flags(4)}, api.ErrRange},
		{api.Lists{Inactive: []int{1, 4}, Referenced: flags(4, 0)}, api.ErrRange},
		{api.Lists{Inactive: []int{math.MinInt}, Referenced: flags(4)}, api.ErrRange},
		{api.Lists{Inactive: []int{1 << 32}, Referenced: flags(4)}, api.ErrRange},
		{api.Lists{Active: []int{1, 2, 1, 9}, Referenced: flags(4)}, api.ErrExists},
		{api.Lists{Active: []int{1, 2, 9, 1}, Referenced: flags(4)}, api.ErrRange},
		{api.Lists{Active: []int{1, 2}, Inactive: []int{3, 2, 9}, Referenced: flags(4, 0)}, api.ErrExists},
		{api.Lists{Active: []int{1, 9}, Inactive: []int{1}, Referenced: flags(4)}, api.ErrRange},
		{api.Lists{Inactive: []int{3, 3}, Referenced: flags(4, 0)}, api.ErrExists},
		{api.Lists{Active: []int{1}, Inactive: []int{2}, Referenced: flags(4, 0)}, api.ErrState},
		{api.Lists{Active: []int{1}, Inactive: []int{2}, Referenced: flags(4, 1, 2)}, api.OK},
		{api.Lists{Referenced: flags(1, 0)}, api.ErrState},
	} {
		if err := lru.Check(c.l); err != c.err {
			t.Error(c.l, err, c.err)
		}
		if c.err == api.OK {
			continue
		}
		for _, frame := range []int{0, 1, 77} {
			e := c.err.Error()
			expect(t, [][2]string{
				{say(lru.Where(c.l, frame)), "0 " + e},
				{say(lru.Add(c.l, frame)), none + " " + e},
				{say(lru.Remove(c.l, frame)), none + " " + e},
				{say(lru.Touch(c.l, frame)), none + " " + e},
				{say(lru.Last(c.l)), "0 " + e},
				{say(lru.Demote(c.l)), none + " 0 " + e},
				{say(lru.Promote(c.l)), none + " 0 " + e},
				{say(lru.Order(c.l)), "[] " + e},
			})
		}
	}
	for _, frame := range []int{-1, 8, 255, 256, math.MaxInt, math.MinInt, 1 << 32} {
		for _, l := range []api.Lists{of("1 / 2*"), of("/")} {
			expect(t, [][2]string{
				{say(lru.Where(l, frame)), "0 range"},
				{say(lru.Add(l, frame)), none + " range"},
				{say(lru.Remove(l, frame)), none + " range"},
				{say(lru.Touch(l, frame)), none + " range"},
			})
		}
	}
}

// P7.2, P7.3, P7.4

func TestExamples(t *testing.T) {
	l, _ := lru.New(8)
	for f := 1; f <= 3; f++ {
		l, _ = lru.Add(l, f)
	}
	l, err := lru.Touch(l, 1)
	expect(t, [][2]string{
		{lists(l, err), "3 2 1* / ok"},
		{listsFrame(lru.Demote(of("3 2 1* /"))), "3 2 / 1 1 ok"},
		{listsFrame(lru.Demote(of("3 2 / 1"))), "3 / 2 1 2 ok"},
		{lists(lru.Touch(of("3 / 2 1"), 1)), "3 / 2 1* ok"},
		{listsFrame(lru.Promote(of("3 / 2 1*"))), "1 3 / 2 1 ok"},
		{say(lru.Last(of("1 3 / 2"))), "2 ok"},
		{say(lru.Where(of("1 3 / 2"), 2)), "2 ok"},
		{say(lru.Where(of("1 3 / 2"), 3)), "1 ok"},
		{say(lru.Where(of("1 3 / 2"), 5)), "0 ok"},
		{say(lru.Where(of("1 3 / 2"), 8)), "0 range"},
		{lists(lru.Remove(of("1 3 / 2"), 2)), "1 3 / ok"},
		{say(lru.Last(of("1 3 /"))), "3 ok"},
		{lists(lru.Remove(of("1 3 / 2"), 5)), none + " missing"},
		{lists(lru.Add(of("1 3 / 2"), 3)), none + " exists"},
		{lists(lru.Add(of("1 3 / 2*"), 2)), none + " exists"},
		{lists(lru.Touch(of("1 3 / 2*"), 0)), none + " missing"},
		{lists(lru.Touch(of("1 3 / 2*"), 2)), "1 3 / 2* ok"},
		{lists(lru.Touch(of("1 3 / 2*"), 3)), "1 3* / 2* ok"},
		{lists(lru.Remove(of("1* 3* 5 / 2* 0"), 3)), "1* 5 / 2* 0 ok"},
		{lists(lru.Remove(of("1* 3* 5 / 2* 0"), 2)), "1* 3* 5 / 0 ok"},
		{say(lru.Order(of("3 2 / 1 0"))), "[0 1 2 3] ok"},
		{say(lru.Order(of("/"))), "[] ok"},
		{listsFrame(lru.Demote(of("/"))), none + " 0 missing"},
		{listsFrame(lru.Demote(of("/ 1* 2"))), none + " 0 missing"},
		{listsFrame(lru.Promote(of("/"))), none + " 0 missing"},
		{listsFrame(lru.Promote(of("1 2* /"))), none + " 0 missing"},
		{listsFrame(lru.Promote(of("/ 1* 2"))), "2 / 1* 2 ok"},
		{listsFrame(lru.Demote(of("1* 2* / 4* 5"))), "1* / 2 4* 5 2 ok"},
		{say(lru.Last(of("/"))), "0 missing"},
	})
}

// some returns lists of 8 frames, always the same ones for a number.
func some(seed uint64) api.Lists {
	r := rand.New(rand.NewPCG(seed, 7))
	l := api.Lists{Referenced: make([]bool, 8)}
	for _, f := range r.Perm(8)[:r.IntN(9)] {
		if r.IntN(2) == 0 {
			l.Active = append(l.Active, f)
		} else {
			l.Inactive = append(l.Inactive, f)
		}
		l.Referenced[f] = r.IntN(3) == 0
	}
	return l
}

// scribble writes over results, and checks that the argument does not notice.
func scribble(t *testing.T, arg api.Lists, before string, result api.Lists) {
	t.Helper()
	for _, l := range [][]int{result.Active, result.Inactive} {
		for i := range l {
			l[i] = 77
		}
		_ = append(l, 78)
	}
	for i := range result.Referenced {
		result.Referenced[i] = !result.Referenced[i]
	}
	if say(arg) != before {
		t.Fatal("an argument was changed:", before, arg)
	}
}

// P7.5, P7.6, P7.7

func TestTheoremChanges(t *testing.T) {
	for seed := range uint64(600) {
		l := some(seed)
		before := say(l)
		for f := range 8 {
			where, _ := lru.Where(l, f)
			added, err := lru.Add(l, f)
			if (err == api.OK) != (where == 0) {
				t.Fatal(l, f, where, err)
			}
			if err == api.OK {
				back, err2 := lru.Remove(added, f)
				want := "/"
				if w := show(l); w != "/" {
					want = w
				}
				if lru.Check(added) != api.OK || err2 != api.OK || show(back) != want || added.Active[0] != f || added.Referenced[f] || !slices.Equal(added.Active[1:], l.Active) || !slices.Equal(added.Inactive, l.Inactive) {
					t.Fatal(l, f, added, back)
				}
				scribble(t, l, before, back)
				scribble(t, l, before, added)
				continue
			}
			removed, err := lru.Remove(l, f)
			order, _ := lru.Order(l)
			rest, _ := lru.Order(removed)
			if err != api.OK || lru.Check(removed) != api.OK || removed.Referenced[f] || !slices.Equal(rest, slices.DeleteFunc(order, func(g int) bool { return g == f })) {
				t.Fatal(l, f, removed, err)
			}
			touched, err := lru.Touch(l, f)
			if err != api.OK || !touched.Referenced[f] || !slices.Equal(touched.Active, l.Active) || !slices.Equal(touched.Inactive, l.Inactive) {
				t.Fatal(l, f, touched, err)
			}
			scribble(t, l, before, removed)
			scribble(t, l, before, touched)
		}
		moved(t, l, l.Active, l.Inactive, false)
		moved(t, l, l.Inactive, l.Active, true)
	}
}

// moved checks Demote, or Promote, by which the last frame of a list becomes the first one of another list.
func moved(t *testing.T, l api.Lists, from, to []int, promote bool) {
	t.Helper()
	before := say(l)
	result, frame, err := lru.Demote(l)
	short, long := result.Active, result.Inactive
	if promote {
		result, frame, err = lru.Promote(l)
		short, long = result.Inactive, result.Active
	}
	n := len(from) - 1
	if n < 0 {
		if err != api.ErrMissing || frame != 0 || say(result) != none {
			t.Fatal(l, promote, result, frame, err)
		}
		return
	}
	flags := slices.Clone(l.Referenced)
	flags[from[n]] = false
	if err != api.OK || frame != from[n] || !slices.Equal(short, from[:n]) || !slices.Equal(long, append([]int{frame}, to...)) || !slices.Equal(result.Referenced, flags) {
		t.Fatal(l, promote, result, frame, err)
	}
	scribble(t, l, before, result)
}

// P7.3, P7.4, P7.8

func TestTheoremOrder(t *testing.T) {
	for seed := range uint64(600) {
		l := some(seed)
		order, err := lru.Order(l)
		if err != api.OK || len(order) != len(l.Active)+len(l.Inactive) {
			t.Fatal(l, order, err)
		}
		rest := l
		for _, f := range order {
			last, err := lru.Last(rest)
			if last != f || err != api.OK {
				t.Fatal(l, order, rest, last, err)
			}
			rest, _ = lru.Remove(rest, f)
		}
		if last, err := lru.Last(rest); last != 0 || err != api.ErrMissing {
			t.Fatal(rest, last, err)
		}
		for i, f := range order {
			if where, _ := lru.Where(l, f); (where == 2) != (i < len(l.Inactive)) {
				t.Fatal(l, order, f, where)
			}
		}
	}
}
