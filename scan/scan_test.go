package scan_test

import (
	"fmt"
	"math"
	"math/rand/v2"
	"slices"
	"strconv"
	"strings"
	"testing"

	"headgate/api"
	"headgate/lru"
	"headgate/scan"
)

// say writes values with blanks between them, errors by their names.
func say(l ...any) string { return strings.TrimSuffix(fmt.Sprintln(l...), "\n") }

// expect compares what calls gave with what they should give.
func expect(t *testing.T, l [][2]string) {
	t.Helper()
	for i, c := range l {
		if c[0] != c[1] {
			t.Fatalf("case %d: %.700q, not %.700q", i, c[0], c[1])
		}
	}
}

// of reads lists of 8 frames as the chapter writes them: active / inactive, r for a referenced one.
func of(s string) api.Lists {
	l := api.Lists{Referenced: make([]bool, 8)}
	parts := strings.Split(s, "/")
	for i, to := range []*[]int{&l.Active, &l.Inactive} {
		for _, w := range strings.Fields(parts[i]) {
			n, _ := strconv.Atoi(strings.TrimSuffix(w, "r"))
			*to = append(*to, n)
			l.Referenced[n] = strings.HasSuffix(w, "r")
		}
	}
	return l
}

// some returns lists, always the same ones for a number.
func some(seed uint64) api.Lists {
	r := rand.New(rand.NewPCG(seed, 30))
	frames := []int{1, 3, 8, 20}[seed%4]
	l := api.Lists{Referenced: make([]bool, frames)}
	for _, f := range r.Perm(frames)[:r.IntN(frames+1)] {
		if r.IntN(3) == 0 {
			l.Inactive = append(l.Inactive, f)
		} else {
			l.Active = append(l.Active, f)
		}
		l.Referenced[f] = r.IntN(3) == 0
	}
	return l
}

// move is what a step is: its kind and its frame.
type move struct{ what, frame int }

// step does a background step as the chapter says, on its own lists.
func step(l api.Lists, target int) (api.Lists, move) {
	a, i := l.Active, l.Inactive
	flags := slices.Clone(l.Referenced)
	switch {
	case len(a) > 0 && len(i) < target:
		f := a[len(a)-1]
		flags[f] = false
		return api.Lists{Active: a[:len(a)-1], Inactive: append([]int{f}, i...), Referenced: flags}, move{1, f}
	case len(i) > 0 && l.Referenced[i[len(i)-1]]:
		f := i[len(i)-1]
		flags[f] = false
		return api.Lists{Active: append([]int{f}, a...), Inactive: i[:len(i)-1], Referenced: flags}, move{2, f}
	case len(i) > 0:
		return l, move{3, i[len(i)-1]}
	}
	return l, move{0, -1}
}

// sweep does n steps.
func sweep(l api.Lists, target, n int) (api.Lists, []move) {
	var moves []move
	for range n {
		next, m := step(l, target)
		if m.what == 3 {
			flags := slices.Clone(next.Referenced)
			flags[m.frame] = false
			next = api.Lists{Active: next.Active, Inactive: next.Inactive[:len(next.Inactive)-1], Referenced: flags}
		}
		l, moves = next, append(moves, m)
	}
	return l, moves
}

// frames returns the frames of moves of a kind.
func frames(moves []move, what int) (l []int) {
	for _, m := range moves {
		if m.what == what {
			l = append(l, m.frame)
		}
	}
	return l
}

// scribble writes over a result, and checks that the argument does not notice.
func scribble(t *testing.T, arg api.Lists, before string, result api.Lists) {
	t.Helper()
	for _, l := range [][]int{result.Active, result.Inactive} {
		for i := range l {
			l[i] = 77
		}
	}
	for i := range result.Referenced {
		result.Referenced[i] = !result.Referenced[i]
	}
	if say(arg) != before {
		t.Fatal("an argument was changed:", before, arg)
	}
}

const none = "{[] [] []}"

var targets = []int{0, 1, 2, 3, 5, 100, 256}

// P30.1, P30.5, P30.6

func TestStep(t *testing.T) {
	for seed := range uint64(400) {
		l := some(seed)
		before := say(l)
		for _, target := range targets {
			want, m := step(l, target)
			next, what, frame, err := scan.Step(l, target)
			expect(t, [][2]string{{say(next, what, frame, err), say(want, m.what, m.frame, "ok")}, {say(lru.Check(next)), "ok"}})
			if what == api.WriteOut && l.Referenced[frame] {
				t.Fatal(l, frame)
			}
			scribble(t, l, before, next)
		}
	}
}

func TestErrors(t *testing.T) {
	bad := []api.Lists{{}, {Active: []int{1}, Referenced: make([]bool, 1)}, {Active: []int{0}, Inactive: []int{0}, Referenced: make([]bool, 1)}, {Referenced: []bool{true}}}
	for i, e := range []string{"range", "range", "exists", "state"} {
		for _, target := range []int{1, -1, 300} {
			refused(t, bad[i], target, target, e)
		}
		expect(t, [][2]string{{say(scan.Direct(bad[i])), none + " 0 " + e}})
	}
	for _, target := range []int{-1, 257, math.MinInt, math.MaxInt, 1 << 32} {
		refused(t, of("1 2r / 3"), target, 3, "range")
		refused(t, of("/"), target, -1, "range")
	}
	for _, n := range []int{-1, 1001, math.MinInt, math.MaxInt, 1 << 32} {
		expect(t, [][2]string{{say(scan.Sweep(of("1 / 2"), 1, n)), none + " [] range"}, {say(scan.Safe(of("1 / 2"), 1, n)), "[] range"}})
	}
	expect(t, [][2]string{{say(scan.Safe(of("1 / 2"), 1, 1000)), "[] ok"}})
}

// refused checks that all functions with a target return an error.
func refused(t *testing.T, l api.Lists, target, n int, e string) {
	t.Helper()
	expect(t, [][2]string{
		{say(scan.Step(l, target)), none + " 0 0 " + e},
		{say(scan.Sweep(l, target, n)), none + " [] " + e},
		{say(scan.First(l, target)), "0 0 " + e},
		{say(scan.Victims(l, target)), "[] " + e},
		{say(scan.Safe(l, target, n)), "[] " + e},
	})
}

// P30.2, P30.9

func TestDirect(t *testing.T) {
	for seed := range uint64(200) {
		l := some(seed)
		before := say(l)
		order, _ := lru.Order(l)
		var got []int
		rest := l
		for {
			next, frame, err := scan.Direct(rest)
			if err != api.OK {
				expect(t, [][2]string{{say(next, frame, err), none + " 0 missing"}})
				break
			}
			want, _ := lru.Remove(rest, frame)
			expect(t, [][2]string{{say(next), say(want)}})
			got, rest = append(got, frame), want
			scribble(t, l, before, next)
		}
		if !slices.Equal(got, order) {
			t.Fatal(l, got, order)
		}
	}
}

// P30.3, P30.4, P30.8

func TestSweep(t *testing.T) {
	for seed := range uint64(200) {
		l := some(seed)
		before := say(l)
		for _, target := range targets {
			for _, n := range []int{0, 1, 2, 3, 7, 20, 70} {
				want, moves := sweep(l, target, n)
				got, victims, err := scan.Sweep(l, target, n)
				expect(t, [][2]string{{say(got, victims, err), say(want, frames(moves, 3), "ok")}})
				var safe []int
				for f := range l.Referenced {
					if slices.Contains(slices.Concat(want.Active, want.Inactive), f) && !slices.ContainsFunc(moves, func(m move) bool { return m.frame == f }) {
						safe = append(safe, f)
					}
				}
				expect(t, [][2]string{{say(scan.Safe(l, target, n)), say(safe, "ok")}})
				more, others, _ := scan.Sweep(got, target, 5)
				all, together, _ := scan.Sweep(l, target, n+5)
				expect(t, [][2]string{{say(more, slices.Concat(victims, others)), say(all, together)}})
				scribble(t, l, before, got)
			}
		}
	}
}

// P30.3, P30.6, P30.7

func TestFirstVictims(t *testing.T) {
	for seed := range uint64(400) {
		l := some(seed)
		for _, target := range targets {
			_, moves := sweep(l, target, 5*len(l.Referenced)+5)
			end := slices.IndexFunc(moves, func(m move) bool { return m.what == 0 })
			if end < 0 {
				t.Fatal(l, moves)
			}
			victims := frames(moves[:end], 3)
			first := "0 0 missing"
			if at := slices.IndexFunc(moves[:end], func(m move) bool { return m.what == 3 }); at >= 0 {
				first = say(moves[at].frame, at, "ok")
				if at > 3*len(l.Referenced) {
					t.Fatal(l, moves)
				}
			}
			expect(t, [][2]string{{say(scan.First(l, target)), first}, {say(scan.Victims(l, target)), say(victims, "ok")}})
			if target >= 1 {
				order, _ := lru.Order(l)
				slices.Sort(order)
				slices.Sort(victims)
				if !slices.Equal(order, victims) {
					t.Fatal(l, target, victims)
				}
			}
			for i, m := range moves {
				passed := slices.ContainsFunc(moves[:i], func(n move) bool { return n.frame == m.frame })
				if m.what == 3 && l.Referenced[m.frame] && !passed {
					t.Fatal(l, moves)
				}
			}
		}
	}
}

// The examples of the chapter.

func TestExamples(t *testing.T) {
	s := func(l api.Lists, what, frame int, err api.Errno) string { return say(l, what, frame, err) }
	d := func(l api.Lists, frame int, err api.Errno) string { return say(l, frame, err) }
	expect(t, [][2]string{
		{s(scan.Step(of("1 2r 3 /"), 2)), say(of("1 2r / 3"), "1 3 ok")},
		{s(scan.Step(of("1 / 2 3r"), 2)), say(of("3 1 / 2"), "2 3 ok")},
		{s(scan.Step(of("1 / 3r 2"), 2)), say(of("1 / 3r 2"), "3 2 ok")},
		{s(scan.Step(of("/"), 2)), say(of("/"), "0 -1 ok")},
		{s(scan.Step(of("1 / 2"), 5)), say(of("/ 1 2"), "1 1 ok")},
		{s(scan.Step(of("/ 2"), 5)), say(of("/ 2"), "3 2 ok")},
		{s(scan.Step(of("1 / 2r"), 0)), say(of("2 1 /"), "2 2 ok")},
		{d(scan.Direct(of("1 / 2r"))), say(of("1 /"), "2 ok")},
		{d(scan.Direct(of("1r /"))), say(of("/"), "1 ok")},
		{d(scan.Direct(of("/"))), none + " 0 missing"},
		{say(scan.First(of("1 2r 3 /"), 1)), "3 1 ok"},
		{say(scan.First(of("1r 2r /"), 1)), "2 1 ok"},
		{say(scan.Sweep(of("1 2 / 3r"), 1, 3)), say(of("3 1 /"), "[2] ok")},
		{say(scan.Victims(of("1 2 / 3r"), 1)), "[2 1 3] ok"},
		{say(scan.Sweep(of("1 /"), 0, 5)), say(of("1 /"), "[] ok")},
		{say(scan.Safe(of("1 2 / 3"), 1, 1)), "[1 2] ok"},
		{say(scan.Safe(of("1 2 3 /"), 1, 2)), "[1 2] ok"},
	})
}
