package rmap_test

import (
	"fmt"
	"math"
	"math/rand/v2"
	"slices"
	"strings"
	"testing"

	"headgate/api"
	"headgate/rmap"
)

// say writes values with blanks between them, errors by their names.
func say(l ...any) string { return strings.TrimSuffix(fmt.Sprintln(l...), "\n") }

// expect compares what calls gave with what they should give.
func expect(t *testing.T, l [][2]string) {
	t.Helper()
	for i, c := range l {
		if c[0] != c[1] {
			t.Fatalf("case %d: %.500q, not %.500q", i, c[0], c[1])
		}
	}
}

// of makes a list: frame, process and page of each mapping.
func of(l ...int) []api.Mapping {
	var m []api.Mapping
	for i := 0; i < len(l); i += 3 {
		m = append(m, api.Mapping{Frame: l[i], Place: place(l[i+1], l[i+2])})
	}
	return m
}

func place(proc, page int) api.Place { return api.Place{Proc: proc, Page: page} }

// sorted returns the mappings of places, in order.
func sorted(m map[api.Place]int) []api.Mapping {
	var l []api.Mapping
	for p, f := range m {
		l = append(l, api.Mapping{Frame: f, Place: p})
	}
	key := func(m api.Mapping) int { return m.Frame*1000 + m.Place.Proc*64 + m.Place.Page }
	slices.SortFunc(l, func(a, b api.Mapping) int { return key(a) - key(b) })
	return l
}

// places returns the frames of places.
func places(l []api.Mapping) map[api.Place]int {
	m := map[api.Place]int{}
	for _, x := range l {
		m[x.Place] = x.Frame
	}
	return m
}

// count returns how many places map a frame.
func count(m map[api.Place]int, frame int) (n int) {
	for _, f := range m {
		if f == frame {
			n++
		}
	}
	return n
}

// some returns a list, always the same one for a number.
func some(seed uint64) []api.Mapping {
	r := rand.New(rand.NewPCG(seed, 25))
	m := map[api.Place]int{}
	for range r.IntN(40) {
		m[place(1+r.IntN(4), []int{0, 1, 5, 40, 63}[r.IntN(5)])] = []int{0, 1, 7, 100, 255}[r.IntN(5)]
	}
	if seed == 5 {
		for i := range 512 {
			m[place(1+i/64, i%64)] = i % 100
		}
	}
	return sorted(m)
}

// scribble writes over a result, and checks that the argument does not notice.
func scribble(t *testing.T, arg []api.Mapping, before string, result []api.Mapping) {
	t.Helper()
	for i := range result {
		result[i].Frame = 777
	}
	_ = append(result, api.Mapping{Frame: 778})
	if say(arg) != before {
		t.Fatal("an argument was changed")
	}
}

var far = []int{math.MinInt, -1 << 32, -1, 256, 257, 1 << 32, 1<<32 + 1, math.MaxInt}

// P25.1

func TestCheck(t *testing.T) {
	for _, c := range []struct {
		l    []api.Mapping
		want string
	}{
		{nil, "ok 0"}, {some(5), "ok 0"}, {of(0, 1, 0, 255, 8, 63), "ok 0"},
		{of(256, 1, 0), "range 0"}, {of(-1, 1, 0), "range 0"}, {of(0, 0, 0), "range 0"}, {of(0, 9, 0), "range 0"}, {of(0, 1, -1), "range 0"}, {of(0, 1, 64), "range 0"},
		{of(math.MaxInt, 1, 1), "range 0"}, {of(1, math.MinInt, 1), "range 0"}, {of(1, 1, math.MaxInt), "range 0"},
		{of(5, 1, 3, 4, 1, 9), "order 1"}, {of(5, 2, 3, 5, 1, 9), "order 1"}, {of(5, 1, 3, 5, 1, 2), "order 1"}, {of(5, 1, 3, 5, 1, 3), "order 1"},
		{of(5, 1, 3, 6, 1, 3), "exists 1"}, {of(4, 1, 3, 5, 1, 4, 6, 1, 3, 0, 0, 0), "exists 2"}, {of(5, 1, 3, 4, 9, 9), "range 1"}, {of(5, 1, 3, 4, 1, 3), "order 1"},
	} {
		expect(t, [][2]string{{say(rmap.Check(c.l)), c.want}})
		if e := strings.Fields(c.want)[0]; e != "ok" {
			for _, n := range []int{1, 3, 999} {
				expect(t, [][2]string{
					{say(rmap.Add(c.l, n, place(n, n))), "[] " + e},
					{say(rmap.Remove(c.l, place(n, n))), "[] 0 0 " + e},
					{say(rmap.Find(c.l, place(n, n))), "0 " + e},
					{say(rmap.Of(c.l, n)), "[] " + e},
					{say(rmap.Drop(c.l, n)), "[] [] " + e},
					{say(rmap.Move(c.l, place(n, n), n)), "[] 0 " + e},
					{say(rmap.Exit(c.l, n)), "[] [] " + e},
					{say(rmap.Counts(c.l)), "[] " + e},
					{say(rmap.Fork(c.l, n, n+1)), "[] " + e},
				})
			}
		}
	}
}

func TestRange(t *testing.T) {
	l := of(4, 1, 9, 5, 1, 3, 5, 2, 0)
	for _, n := range far {
		for _, p := range []api.Place{place(n, 3), place(1, n), place(0, 3), place(9, 3), place(1, 64), place(1, -1)} {
			expect(t, [][2]string{
				{say(rmap.Add(l, 5, p)), "[] range"},
				{say(rmap.Remove(l, p)), "[] 0 0 range"},
				{say(rmap.Find(l, p)), "0 range"},
				{say(rmap.Move(l, p, 5)), "[] 0 range"},
			})
		}
		expect(t, [][2]string{
			{say(rmap.Add(l, n, place(1, 3))), "[] range"},
			{say(rmap.Move(l, place(1, 3), n)), "[] 0 range"},
			{say(rmap.Move(l, place(1, 4), n)), "[] 0 range"},
			{say(rmap.Of(l, n)), "[] range"},
			{say(rmap.Drop(l, n)), "[] [] range"},
			{say(rmap.Exit(l, n)), "[] [] range"},
			{say(rmap.Fork(l, n, 3)), "[] range"},
			{say(rmap.Fork(l, 1, n)), "[] range"},
		})
	}
	for _, n := range []int{0, 9} {
		expect(t, [][2]string{{say(rmap.Exit(l, n)), "[] [] range"}, {say(rmap.Fork(l, n, 3)), "[] range"}, {say(rmap.Fork(l, 1, n)), "[] range"}, {say(rmap.Fork(l, n, n)), "[] range"}})
	}
}

// P25.2, P25.3, P25.5, P25.9

func TestPlaces(t *testing.T) {
	for seed := range uint64(60) {
		l := some(seed)
		before := say(l)
		for _, p := range []api.Place{place(1, 0), place(1, 5), place(2, 63), place(3, 40), place(4, 1), place(8, 63)} {
			m := places(l)
			frame, found := m[p]
			remove, find := "[] 0 0 missing", "0 missing"
			if found {
				rest := places(l)
				delete(rest, p)
				remove, find = say(sorted(rest), frame, count(rest, frame), "ok"), say(frame, "ok")
			}
			expect(t, [][2]string{{say(rmap.Remove(l, p)), remove}, {say(rmap.Find(l, p)), find}})
			if rest, _, _, err := rmap.Remove(l, p); err == api.OK {
				expect(t, [][2]string{{say(rmap.Add(rest, frame, p)), before + " ok"}})
				scribble(t, l, before, rest)
			}
			for _, f := range []int{0, 1, 7, 50, 255} {
				add, move := "[] exists", "[] 0 missing"
				after := places(l)
				after[p] = f
				if found {
					move = say(sorted(after), count(after, frame), "ok")
				} else {
					add = say(sorted(after), "ok")
				}
				expect(t, [][2]string{{say(rmap.Add(l, f, p)), add}, {say(rmap.Move(l, p, f)), move}})
				if c, err := rmap.Add(l, f, p); err == api.OK {
					scribble(t, l, before, c)
				}
				if c, _, err := rmap.Move(l, p, f); err == api.OK {
					scribble(t, l, before, c)
				}
			}
		}
	}
}

// P25.3, P25.4, P25.6

func TestFramesProcs(t *testing.T) {
	for seed := range uint64(60) {
		l := some(seed)
		before := say(l)
		all, sum := make([]int, 256), 0
		for frame := range 256 {
			var of []api.Place
			for _, m := range l {
				if m.Frame == frame {
					of = append(of, m.Place)
				}
			}
			all[frame] = len(of)
			sum += len(of)
			rest := slices.DeleteFunc(slices.Clone(l), func(m api.Mapping) bool { return m.Frame == frame })
			expect(t, [][2]string{{say(rmap.Of(l, frame)), say(of, "ok")}, {say(rmap.Drop(l, frame)), say(rest, of, "ok")}})
			c, _, _ := rmap.Drop(l, frame)
			scribble(t, l, before, c)
		}
		expect(t, [][2]string{{say(rmap.Counts(l)), say(all, "ok")}})
		if sum != len(l) {
			t.Fatal(sum, len(l))
		}
		for proc := 1; proc <= 8; proc++ {
			rest := slices.DeleteFunc(slices.Clone(l), func(m api.Mapping) bool { return m.Place.Proc == proc })
			var freed []int
			for frame, n := range all {
				if n > 0 && count(places(rest), frame) == 0 {
					freed = append(freed, frame)
				}
			}
			expect(t, [][2]string{{say(rmap.Exit(l, proc)), say(rest, freed, "ok")}})
			c, _, _ := rmap.Exit(l, proc)
			scribble(t, l, before, c)
			forks(t, l, before, proc)
		}
	}
}

// forks checks Fork of a process to all others.
func forks(t *testing.T, l []api.Mapping, before string, proc int) {
	t.Helper()
	for child := 1; child <= 8; child++ {
		has := slices.ContainsFunc(l, func(m api.Mapping) bool { return m.Place.Proc == child })
		m := places(l)
		for p, f := range places(l) {
			if p.Proc == proc {
				m[place(child, p.Page)] = f
			}
		}
		want := say(sorted(m), "ok")
		switch {
		case child == proc:
			want = "[] range"
		case has:
			want = "[] exists"
		}
		c, err := rmap.Fork(l, proc, child)
		expect(t, [][2]string{{say(c, err), want}})
		if err == api.OK {
			expect(t, [][2]string{{say(rmap.Exit(c, child)), say(l, "[] ok")}})
			scribble(t, l, before, c)
		}
	}
}

// P25.8

func TestTheoremAll(t *testing.T) {
	for seed := range uint64(60) {
		l := some(seed)
		freed := map[int]int{}
		rest := l
		for proc := 1; proc <= 8; proc++ {
			next, frames, _ := rmap.Exit(rest, proc)
			for _, f := range frames {
				freed[f]++
			}
			rest = next
		}
		none := l
		for frame := range 256 {
			none, _, _ = rmap.Drop(none, frame)
			if want := min(count(places(l), frame), 1); freed[frame] != want {
				t.Fatal(l, frame, freed)
			}
		}
		if len(rest) != 0 || len(none) != 0 {
			t.Fatal(rest, none)
		}
	}
}

// The examples of the chapter.

func TestExamples(t *testing.T) {
	l := of(4, 1, 9, 5, 1, 3, 5, 2, 0)
	a, _ := rmap.Add(nil, 5, place(1, 3))
	a, _ = rmap.Add(a, 5, place(2, 0))
	counts, _ := rmap.Counts(l)
	expect(t, [][2]string{
		{say(rmap.Add(a, 4, place(1, 9))), say(l, "ok")},
		{say(rmap.Of(l, 5)), "[{1 3} {2 0}] ok"},
		{say(rmap.Find(l, place(1, 9))), "4 ok"},
		{say(counts[4:7]), "[1 2 0]"},
		{say(rmap.Remove(l, place(1, 3))), say(of(4, 1, 9, 5, 2, 0), "5 1 ok")},
		{say(rmap.Remove(of(4, 1, 9, 5, 2, 0), place(2, 0))), say(of(4, 1, 9), "5 0 ok")},
		{say(rmap.Move(l, place(1, 3), 4)), say(of(4, 1, 3, 4, 1, 9, 5, 2, 0), "1 ok")},
		{say(rmap.Exit(l, 1)), say(of(5, 2, 0), "[4] ok")},
		{say(rmap.Fork(l, 1, 3)), say(of(4, 1, 9, 4, 3, 9, 5, 1, 3, 5, 2, 0, 5, 3, 3), "ok")},
		{say(rmap.Fork(l, 1, 2)), "[] exists"},
		{say(rmap.Fork(l, 1, 1)), "[] range"},
		{say(rmap.Add(l, 6, place(1, 3))), "[] exists"},
		{say(rmap.Add(l, 256, place(1, 0))), "[] range"},
		{say(rmap.Remove(l, place(1, 4))), "[] 0 0 missing"},
		{say(rmap.Drop(l, 5)), say(of(4, 1, 9), "[{1 3} {2 0}] ok")},
	})
}
