package buddy_test

import (
	"fmt"
	"math"
	"math/rand/v2"
	"slices"
	"strings"
	"testing"

	"headgate/api"
	"headgate/buddy"
)

// say writes values with blanks between them, errors by their names.
func say(l ...any) string { return strings.TrimSuffix(fmt.Sprintln(l...), "\n") }

// expect compares what calls gave with what they should give.
func expect(t *testing.T, l [][2]string) {
	t.Helper()
	for i, c := range l {
		if c[0] != c[1] {
			t.Errorf("case %d: %q, not %q", i, c[0], c[1])
		}
	}
}

// of makes a zone: At and Order of each free block.
func of(frames int, l ...int) api.Buddy {
	z := api.Buddy{Frames: frames}
	for i := 0; i < len(l); i += 2 {
		z.Free = append(z.Free, api.Block{At: l[i], Order: l[i+1]})
	}
	return z
}

// show writes the free blocks of a zone as At/Order.
func show(z api.Buddy) string {
	var l []string
	for _, b := range z.Free {
		l = append(l, fmt.Sprintf("%d/%d", b.At, b.Order))
	}
	return strings.Join(l, " ")
}

func zone(z api.Buddy, err api.Errno) string           { return show(z) + say("", err) }
func zoneAt(z api.Buddy, at int, err api.Errno) string { return say(at, ":", show(z), err) }

// from returns the valid zone with these free frames, by trying all blocks, the greatest ones first.
func from(set []bool) api.Buddy {
	z := api.Buddy{Frames: len(set)}
	rest := slices.Clone(set)
	for ord := 6; ord >= 0; ord-- {
		for at := 0; at+1<<ord <= len(set); at += 1 << ord {
			if !slices.Contains(rest[at:at+1<<ord], false) {
				z.Free = append(z.Free, api.Block{At: at, Order: ord})
				clear(rest[at : at+1<<ord])
			}
		}
	}
	slices.SortFunc(z.Free, func(a, b api.Block) int { return a.At - b.At })
	return z
}

// some returns free frames, always the same ones for a number.
func some(seed uint64) []bool {
	r := rand.New(rand.NewPCG(seed, 9))
	set := make([]bool, []int{0, 1, 2, 7, 11, 16, 63, 64, 65, 100, 128, 255, 256}[seed%13])
	unit := 1 << r.IntN(5)
	share := r.IntN(10)
	for at := range set {
		set[at] = at%unit != 0 && set[at-1] || at%unit == 0 && r.IntN(10) < share
	}
	return set
}

// P9.1

func TestNewCheck(t *testing.T) {
	for n := range 257 {
		set := make([]bool, n)
		for i := range set {
			set[i] = true
		}
		z, err := buddy.New(n)
		if say(z) != say(from(set)) || err != api.OK {
			t.Error(n, z, err)
		}
		expect(t, [][2]string{{say(buddy.Check(z)), "ok 0"}, {say(buddy.Total(z)), say(n, "ok")}})
	}
	for _, n := range []int{-1, 257, math.MinInt, math.MaxInt, 1 << 32, 1<<32 + 5} {
		expect(t, [][2]string{{say(buddy.New(n)), "{0 []} range"}})
	}
	for _, c := range []struct {
		z    api.Buddy
		want string
	}{
		{of(-1), "range 0"},
		{of(257, 5, 9), "range 0"},
		{of(math.MinInt, 0, 0), "range 0"},
		{of(0, 0, 0), "range 0"},
		{of(8, 0, 1, 2, 7), "range 1"},
		{of(8, 0, -1), "range 0"},
		{of(8, 0, math.MaxInt), "range 0"},
		{of(8, -1, 0), "range 0"},
		{of(8, -8, 3), "range 0"},
		{of(8, math.MinInt, 1), "range 0"},
		{of(8, math.MaxInt, 1), "range 0"},
		{of(8, 8, 0), "range 0"},
		{of(9, 8, 1), "range 0"},
		{of(8, 7, 1), "range 0"},
		{of(8, 1, 1), "align 0"},
		{of(8, 2, 2), "align 0"},
		{of(8, 0, 0, 3, 1), "align 1"},
		{of(8, 0, 0, 0, 0), "order 1"},
		{of(8, 4, 2, 0, 0), "order 1"},
		{of(8, 0, 2, 2, 1), "order 1"},
		{of(8, 2, 1, 0, 1), "order 1"},
		{of(8, 3, 0, 2, 0), "order 1"},
		{of(4, 0, 1, 2, 1), "exists 1"},
		{of(8, 0, 0, 2, 0, 3, 0), "exists 2"},
		{of(8, 0, 0, 1, 0, 9, 9), "exists 1"},
		{of(8, 1, 0, 2, 0), "ok 0"},
		{of(8, 2, 1, 4, 1), "ok 0"},
		{of(8, 0, 1, 2, 0), "ok 0"},
		{of(128, 0, 6, 64, 6), "ok 0"},
		{of(256, 0, 6, 64, 6, 128, 6, 192, 6), "ok 0"},
		{of(128, 0, 5, 32, 5), "exists 1"},
	} {
		expect(t, [][2]string{{say(buddy.Check(c.z)), c.want}})
		if err := strings.Fields(c.want)[0]; err != "ok" {
			refused(t, c.z, 0, 0, err)
			refused(t, c.z, 99, 99, err)
		}
	}
}

// refused checks that all functions return an error for a zone.
func refused(t *testing.T, z api.Buddy, at, ord int, err string) {
	t.Helper()
	expect(t, [][2]string{
		{say(buddy.Alloc(z, ord)), "{0 []} 0 " + err},
		{say(buddy.Free(z, at, ord)), "{0 []} " + err},
		{say(buddy.Take(z, at, ord)), "{0 []} " + err},
		{say(buddy.Total(z)), "0 " + err},
		{say(buddy.Counts(z)), "[] " + err},
		{say(buddy.Most(z, ord)), "0 " + err},
		{say(buddy.Is(z, at)), "false " + err},
	})
}

func TestOrders(t *testing.T) {
	z, _ := buddy.New(100)
	for _, ord := range []int{-1, 7, 64, math.MinInt, math.MaxInt, 1 << 32} {
		expect(t, [][2]string{
			{say(buddy.Alloc(z, ord)), "{0 []} 0 range"},
			{say(buddy.Free(z, 3, ord)), "{0 []} range"},
			{say(buddy.Take(z, 3, ord)), "{0 []} range"},
			{say(buddy.Most(z, ord)), "0 range"},
		})
	}
}

// P9.2, P9.8

func TestAlloc(t *testing.T) {
	for seed := range uint64(400) {
		set := some(seed)
		z := from(set)
		before := say(z)
		for ord := range 7 {
			want, wantOrd := -1, 7
			for _, b := range z.Free {
				if b.Order >= ord && b.Order < wantOrd {
					want, wantOrd = b.At, b.Order
				}
			}
			most, err := buddy.Most(z, ord)
			if err != api.OK || (most > 0) != (want >= 0) {
				t.Fatal(z, ord, most, err)
			}
			got, at, err := buddy.Alloc(z, ord)
			if want < 0 {
				expect(t, [][2]string{{say(got, at, err), "{0 []} 0 full"}})
				continue
			}
			less := slices.Clone(set)
			clear(less[want : want+1<<ord])
			if at != want || err != api.OK || say(got) != say(from(less)) {
				t.Fatal(z, ord, got, at, err)
			}
			if m, _ := buddy.Most(got, ord); m != most-1 {
				t.Fatal(z, ord, most, m)
			}
			scribble(t, z, before, got)
		}
	}
}

// scribble writes over a result, and checks that the argument does not notice.
func scribble(t *testing.T, arg api.Buddy, before string, result api.Buddy) {
	t.Helper()
	for i := range result.Free {
		result.Free[i] = api.Block{At: 77, Order: 7}
	}
	if say(arg) != before {
		t.Fatal("an argument was changed:", before, arg)
	}
}

// P9.3, P9.5

func TestFreeTake(t *testing.T) {
	for seed := range uint64(120) {
		set := some(seed)
		z := from(set)
		before := say(z)
		for ord := range 7 {
			for at := -2; at < len(set)+3; at++ {
				inside := at >= 0 && at+1<<ord <= len(set)
				wantFree, wantTake := "", ""
				freed, taken := slices.Clone(set), slices.Clone(set)
				switch {
				case !inside:
					wantFree, wantTake = "{0 []} range", "{0 []} range"
				case at%(1<<ord) != 0:
					wantFree, wantTake = "{0 []} align", "{0 []} align"
				default:
					part := set[at : at+1<<ord]
					wantFree, wantTake = "{0 []} exists", "{0 []} full"
					if !slices.Contains(part, true) {
						for i := range part {
							freed[at+i] = true
						}
						wantFree = say(from(freed), "ok")
					}
					// An aligned block of free frames lies within one free block, if the zone is joined.
					if !slices.Contains(part, false) {
						clear(taken[at : at+1<<ord])
						wantTake = say(from(taken), "ok")
					}
				}
				expect(t, [][2]string{{say(buddy.Free(z, at, ord)), wantFree}, {say(buddy.Take(z, at, ord)), wantTake}})
				if y, err := buddy.Free(z, at, ord); err == api.OK {
					scribble(t, z, before, y)
				}
				if y, err := buddy.Take(z, at, ord); err == api.OK {
					back, err := buddy.Free(y, at, ord)
					if say(back) != before || err != api.OK {
						t.Fatal(z, at, ord, back, err)
					}
					scribble(t, z, before, y)
				}
			}
		}
	}
	for _, at := range []int{math.MinInt, math.MaxInt, math.MaxInt - 63, 1 << 32} {
		for ord := range 7 {
			expect(t, [][2]string{{say(buddy.Free(of(100), at, ord)), "{0 []} range"}, {say(buddy.Take(of(100), at, ord)), "{0 []} range"}})
		}
	}
}

// P9.4

func TestLooks(t *testing.T) {
	for seed := range uint64(300) {
		set := some(seed)
		z := from(set)
		total, counts, free := 0, make([]int, 7), 0
		for at, is := range set {
			if is {
				free++
			}
			expect(t, [][2]string{{say(buddy.Is(z, at)), say(is, "ok")}})
		}
		for _, b := range z.Free {
			counts[b.Order]++
			total += 1 << b.Order
		}
		expect(t, [][2]string{
			{say(buddy.Total(z)), say(free, "ok")},
			{say(buddy.Counts(z)), say(counts, "ok")},
			{say(buddy.Is(z, -1)), "false range"},
			{say(buddy.Is(z, len(set))), "false range"},
			{say(buddy.Is(z, math.MinInt)), "false range"},
			{say(buddy.Is(z, math.MaxInt)), "false range"},
		})
		for ord := range 7 {
			n := 0
			for o := ord; o < 7; o++ {
				n += counts[o] * (1 << (o - ord))
			}
			expect(t, [][2]string{{say(buddy.Most(z, ord)), say(n, "ok")}})
		}
	}
}

// P9.6, P9.7, P9.9

func TestTheoremAll(t *testing.T) {
	r := rand.New(rand.NewPCG(9, 9))
	for i := range 150 {
		n := []int{256, 255, 100, 64, 63, 11, 1}[i%7]
		start, _ := buddy.New(n)
		z := start
		var given []api.Block
		owner := make([]bool, n)
		for range 200 {
			ord := r.IntN(7) * r.IntN(2)
			y, at, err := buddy.Alloc(z, ord)
			if err != api.OK {
				continue
			}
			was, _ := buddy.Total(z)
			is, _ := buddy.Total(y)
			if at%(1<<ord) != 0 || slices.Contains(owner[at:at+1<<ord], true) || was-is != 1<<ord {
				t.Fatal(z, ord, y, at)
			}
			for k := range 1 << ord {
				owner[at+k] = true
			}
			z, given = y, append(given, api.Block{At: at, Order: ord})
		}
		r.Shuffle(len(given), func(a, b int) { given[a], given[b] = given[b], given[a] })
		for k, b := range given {
			y, err := buddy.Free(z, b.At, b.Order)
			if err != api.OK {
				t.Fatal(z, b, err)
			}
			if k+1 < len(given) {
				c := given[k+1]
				one, _ := buddy.Free(y, c.At, c.Order)
				other, _ := buddy.Free(z, c.At, c.Order)
				other, _ = buddy.Free(other, b.At, b.Order)
				if say(one) != say(other) {
					t.Fatal(z, b, c, one, other)
				}
			}
			z = y
		}
		if say(z) != say(start) {
			t.Fatal(n, z)
		}
	}
}

// The examples of the chapter.

func TestExamples(t *testing.T) {
	z, _ := buddy.New(11)
	expect(t, [][2]string{
		{zone(buddy.New(11)), "0/3 8/1 10/0 ok"},
		{zone(buddy.New(0)), " ok"},
		{zone(buddy.New(257)), " range"},
		{zoneAt(buddy.Alloc(z, 0)), "10 : 0/3 8/1 ok"},
		{zoneAt(buddy.Alloc(of(11, 0, 3, 8, 1), 0)), "8 : 0/3 9/0 ok"},
		{zoneAt(buddy.Alloc(of(11, 0, 3, 9, 0), 1)), "0 : 2/1 4/2 9/0 ok"},
		{zone(buddy.Free(of(11, 2, 1, 4, 2, 9, 0), 10, 0)), "2/1 4/2 9/0 10/0 ok"},
		{zone(buddy.Free(of(11, 2, 1, 4, 2, 9, 0, 10, 0), 8, 0)), "2/1 4/2 8/1 10/0 ok"},
		{zone(buddy.Free(of(11, 2, 1, 4, 2, 8, 1, 10, 0), 0, 1)), "0/3 8/1 10/0 ok"},
		{say(buddy.Most(z, 1)), "5 ok"},
		{say(buddy.Most(z, 2)), "2 ok"},
		{say(buddy.Most(z, 3)), "1 ok"},
		{say(buddy.Most(z, 4)), "0 ok"},
		{say(buddy.Counts(z)), "[1 1 0 1 0 0 0] ok"},
		{zone(buddy.Take(z, 4, 1)), "0/2 6/1 8/1 10/0 ok"},
		{zone(buddy.Take(z, 4, 0)), "0/2 5/0 6/1 8/1 10/0 ok"},
		{zone(buddy.Free(z, 4, 0)), " exists"},
		{zone(buddy.Free(z, 3, 1)), " align"},
		{zone(buddy.Take(z, 8, 2)), " range"},
		{zoneAt(buddy.Alloc(z, 4)), "0 :  full"},
		{zone(buddy.Free(of(128, 64, 6), 0, 6)), "0/6 64/6 ok"},
	})
}
