package shrink_test

import (
	"fmt"
	"math"
	"math/rand/v2"
	"slices"
	"strings"
	"testing"

	"headgate/api"
	"headgate/shrink"
)

// say writes values with blanks between them, errors by their names.
func say(l ...any) string { return strings.TrimSuffix(fmt.Sprintln(l...), "\n") }

// expect compares what calls gave with what they should give.
func expect(t *testing.T, l [][2]string) {
	t.Helper()
	for i, c := range l {
		if c[0] != c[1] {
			t.Errorf("case %d: %q, not %q", i, c[0], c[1])
		}
	}
}

func one(kind int, age uint64, at int) api.Object { return api.Object{Kind: kind, Age: age, At: at} }

// of makes objects of some kinds, with the ages and places from 1 on.
func of(kinds ...int) []api.Object {
	var l []api.Object
	for i, k := range kinds {
		l = append(l, one(k, uint64(i+1), i+1))
	}
	return l
}

// some returns objects, always the same ones for a number.
func some(seed uint64) []api.Object {
	r := rand.New(rand.NewPCG(seed, 15))
	var l []api.Object
	age, at := uint64(0), r.Perm(2048)
	for i := range []int{0, 1, 3, 9, 30, 100, 255, 256}[seed%8] {
		age += 1 + r.Uint64N(9)
		l = append(l, one(1+r.IntN(1+r.IntN(3)), age, at[i]))
	}
	return l
}

const noObject = "{0 0 0}"

// P15.1

func TestCheck(t *testing.T) {
	long := func(n int) (l []api.Object) {
		for i := range n {
			l = append(l, one(1, uint64(i+1), i))
		}
		return l
	}
	for _, c := range []struct {
		l    []api.Object
		want string
	}{
		{nil, "ok 0"}, {of(1, 2, 3), "ok 0"}, {long(256), "ok 0"}, {long(257), "full 0"},
		{append(long(256), one(9, 9, 9)), "full 0"},
		{[]api.Object{one(3, api.MaxTickets, 2047)}, "ok 0"},
		{[]api.Object{one(1, api.MaxTickets+1, 0)}, "range 0"},
		{[]api.Object{one(1, 0, 0)}, "range 0"},
		{[]api.Object{one(1, math.MaxUint64, 0)}, "range 0"},
		{[]api.Object{one(1, 1, 2048)}, "range 0"},
		{[]api.Object{one(1, 1, -1)}, "range 0"},
		{[]api.Object{one(1, 1, math.MaxInt)}, "range 0"},
		{[]api.Object{one(0, 0, -1)}, "kind 0"},
		{[]api.Object{one(4, 1, 1)}, "kind 0"},
		{[]api.Object{one(math.MinInt, 1, 1)}, "kind 0"},
		{[]api.Object{one(1, 2, 5), one(1, 2, 5)}, "order 1"},
		{[]api.Object{one(1, 2, 5), one(1, 1, 6)}, "order 1"},
		{[]api.Object{one(1, 2, 5), one(2, 3, 5)}, "exists 1"},
		{[]api.Object{one(1, 2, 5), one(2, 3, 6), one(3, 4, 5)}, "exists 2"},
		{[]api.Object{one(1, 2, 5), one(2, 0, 5)}, "range 1"},
		{[]api.Object{one(1, 2, 5), one(2, 3, 5), one(9, 9, 9)}, "exists 1"},
	} {
		expect(t, [][2]string{{say(shrink.Check(c.l)), c.want}})
		if err := strings.Fields(c.want)[0]; err != "ok" {
			for _, n := range []int{-1, 0, 3} {
				expect(t, [][2]string{
					{say(shrink.Add(c.l, one(n, 1, 1))), "[] " + err},
					{say(shrink.Drop(c.l, 1)), "[] " + noObject + " " + err},
					{say(shrink.Oldest(c.l, n)), "[] " + err},
					{say(shrink.Counts(c.l)), "[] " + err},
					{say(shrink.Shares(c.l, n)), "[] " + err},
					{say(shrink.Fair(c.l, n)), "[] " + err},
				})
			}
		}
	}
}

// P15.2, P15.4

func TestAddDrop(t *testing.T) {
	full := some(7)
	for _, c := range []struct {
		l    []api.Object
		o    api.Object
		want string
	}{
		{full, one(1, full[255].Age+1, 1), "full"},
		{full, one(1, 1, full[0].At), "full"},
		{full, one(1, 0, 1), "range"},
		{full, one(0, 0, 1), "kind"},
		{of(1, 2), one(4, 0, -1), "kind"},
		{of(1, 2), one(3, 0, 5), "range"},
		{of(1, 2), one(3, api.MaxTickets+1, 5), "range"},
		{of(1, 2), one(3, 3, 2048), "range"},
		{of(1, 2), one(3, 3, -1), "range"},
		{of(1, 2), one(3, 2, 2), "order"},
		{of(1, 2), one(3, 1, 5), "order"},
		{of(1, 2), one(3, 3, 1), "exists"},
	} {
		expect(t, [][2]string{{say(shrink.Add(c.l, c.o)), "[] " + c.want}})
	}
	for seed := range uint64(40) {
		l := some(seed)
		before := say(l)
		o := one(2, 5000, 0)
		for slices.ContainsFunc(l, func(p api.Object) bool { return p.At == o.At }) {
			o.At++
		}
		if more, err := shrink.Add(l, o); err == api.OK {
			expect(t, [][2]string{{say(more), say(append(slices.Clone(l), o))}, {say(shrink.Check(more)), "ok 0"}, {say(shrink.Drop(more, 5000)), say(l, o, "ok")}})
			more[0] = one(7, 7, 7)
		}
		for age := range uint64(60) {
			at := slices.IndexFunc(l, func(p api.Object) bool { return p.Age == age })
			if at < 0 {
				expect(t, [][2]string{{say(shrink.Drop(l, age)), "[] " + noObject + " missing"}})
				continue
			}
			less, o, err := shrink.Drop(l, age)
			expect(t, [][2]string{{say(less, o, err), say(slices.Concat(l[:at], l[at+1:]), l[at], "ok")}, {say(shrink.Check(less)), "ok 0"}})
			for i := range less {
				less[i] = one(7, 7, 7)
			}
		}
		if say(l) != before {
			t.Fatal("an argument was changed")
		}
	}
}

// P15.3, P15.6

func TestOldestCounts(t *testing.T) {
	for seed := range uint64(40) {
		l := some(seed)
		before := say(l)
		counts := []int{0, 0, 0}
		for _, o := range l {
			counts[o.Kind-1]++
		}
		expect(t, [][2]string{{say(shrink.Counts(l)), say(counts, "ok")}})
		for _, n := range []int{0, 1, 2, 7, 99, 255, 256, 257, math.MaxInt} {
			oldest, err := shrink.Oldest(l, n)
			if !slices.Equal(oldest, l[:min(n, len(l))]) || err != api.OK {
				t.Fatal(l, n, oldest, err)
			}
			for i := range oldest {
				oldest[i] = one(7, 7, 7)
			}
			_ = append(oldest, one(8, 8, 8))
		}
		for _, n := range []int{-1, math.MinInt} {
			expect(t, [][2]string{{say(shrink.Oldest(l, n)), "[] range"}, {say(shrink.Shares(l, n)), "[] range"}, {say(shrink.Fair(l, n)), "[] range"}})
		}
		if say(l) != before {
			t.Fatal("an argument was changed")
		}
	}
}

// shares computes shares by giving out the rest one by one.
func shares(counts []int, n int) []int {
	total := counts[0] + counts[1] + counts[2]
	n = min(n, total)
	got, rests := make([]int, 3), make([]int, 3)
	left := n
	for k, c := range counts {
		for total > 0 && (got[k]+1)*total <= n*c {
			got[k]++
		}
		rests[k] = n*c - got[k]*total
		left -= got[k]
	}
	for ; left > 0; left-- {
		best := 0
		for k := range rests {
			if rests[k] > rests[best] {
				best = k
			}
		}
		got[best]++
		rests[best] = -1
	}
	return got
}

// P15.3, P15.5, P15.7

func TestSharesFair(t *testing.T) {
	for a := range 8 {
		for b := range 8 {
			for c := range 8 {
				kinds := slices.Concat(slices.Repeat([]int{1}, a), slices.Repeat([]int{2}, b), slices.Repeat([]int{3}, c))
				r := rand.New(rand.NewPCG(uint64(a*64+b*8+c), 15))
				r.Shuffle(len(kinds), func(i, j int) { kinds[i], kinds[j] = kinds[j], kinds[i] })
				l := of(kinds...)
				for n := range len(l) + 3 {
					checkFair(t, l, []int{a, b, c}, n)
				}
			}
		}
	}
	for seed := range uint64(40) {
		l := some(seed)
		counts, _ := shrink.Counts(l)
		for _, n := range []int{0, 1, 3, 50, 255, 256, math.MaxInt} {
			checkFair(t, l, counts, n)
		}
	}
}

// checkFair checks Shares and Fair.
func checkFair(t *testing.T, l []api.Object, counts []int, n int) {
	t.Helper()
	got, err := shrink.Shares(l, n)
	want := shares(counts, n)
	if !slices.Equal(got, want) || err != api.OK || got[0]+got[1]+got[2] != min(n, len(l)) {
		t.Fatal(counts, n, got, err, want)
	}
	for k, s := range got {
		if d := s*len(l) - min(n, len(l))*counts[k]; s > counts[k] || len(l) > 0 && (d <= -len(l) || d >= len(l)) {
			t.Fatal(counts, n, got)
		}
	}
	var fair []api.Object
	for _, o := range l {
		if want[o.Kind-1] > 0 {
			want[o.Kind-1]--
			fair = append(fair, o)
		}
	}
	f, err := shrink.Fair(l, n)
	if !slices.Equal(f, fair) || err != api.OK {
		t.Fatal(l, n, f, err, fair)
	}
	if counts[0] == len(l) || counts[1] == len(l) || counts[2] == len(l) {
		oldest, _ := shrink.Oldest(l, n)
		if !slices.Equal(f, oldest) {
			t.Fatal(l, n, f, oldest)
		}
	}
}

// The examples of the chapter.

func TestExamples(t *testing.T) {
	l := of(1, 2, 1, 3, 1)
	expect(t, [][2]string{
		{say(shrink.Counts(l)), "[3 1 1] ok"},
		{say(shrink.Shares(l, 0)), "[0 0 0] ok"},
		{say(shrink.Shares(l, 1)), "[1 0 0] ok"},
		{say(shrink.Shares(l, 2)), "[1 1 0] ok"},
		{say(shrink.Shares(l, 3)), "[2 1 0] ok"},
		{say(shrink.Shares(l, 4)), "[2 1 1] ok"},
		{say(shrink.Shares(l, 5)), "[3 1 1] ok"},
		{say(shrink.Shares(l, 9)), "[3 1 1] ok"},
		{say(shrink.Oldest(l, 2)), "[{1 1 1} {2 2 2}] ok"},
		{say(shrink.Fair(l, 3)), "[{1 1 1} {2 2 2} {1 3 3}] ok"},
		{say(shrink.Fair(l, 4)), "[{1 1 1} {2 2 2} {1 3 3} {3 4 4}] ok"},
		{say(shrink.Drop(l, 3)), "[{1 1 1} {2 2 2} {3 4 4} {1 5 5}] {1 3 3} ok"},
		{say(shrink.Drop(l, 6)), "[] {0 0 0} missing"},
		{say(shrink.Add(l, one(2, 5, 6))), "[] order"},
		{say(shrink.Add(l, one(4, 6, 6))), "[] kind"},
		{say(shrink.Oldest(l, -1)), "[] range"},
		{say(shrink.Oldest(nil, 4)), "[] ok"},
	})
}
