package slots_test

import (
	"fmt"
	"math"
	"math/rand/v2"
	"slices"
	"strconv"
	"strings"
	"testing"

	"headgate/api"
	"headgate/slots"
)

// say writes values with blanks between them, errors by their names.
func say(l ...any) string { return strings.TrimSuffix(fmt.Sprintln(l...), "\n") }

// expect compares what calls gave with what they should give.
func expect(t *testing.T, l [][2]string) {
	t.Helper()
	for i, c := range l {
		if c[0] != c[1] {
			t.Fatalf("case %d: %.500q, not %.500q", i, c[0], c[1])
		}
	}
}

// of reads slots as the chapter writes them: references, b for a busy one.
func of(s string) api.Slots {
	var r api.Slots
	for _, w := range strings.Fields(s) {
		n, _ := strconv.Atoi(strings.TrimSuffix(w, "b"))
		r.Refs = append(r.Refs, n)
		r.Busy = append(r.Busy, strings.HasSuffix(w, "b"))
	}
	return r
}

// show writes slots like that.
func show(s api.Slots) string {
	var l []string
	for i, n := range s.Refs {
		w := strconv.Itoa(n)
		if s.Busy[i] {
			w += "b"
		}
		l = append(l, w)
	}
	return strings.Join(l, " ")
}

func one(s api.Slots, err api.Errno) string            { return say(show(s), err) }
func slot(s api.Slots, slot int, err api.Errno) string { return say(show(s), slot, err) }
func free(s api.Slots, f bool, err api.Errno) string   { return say(show(s), f, err) }

// P18.1

func TestNewCheck(t *testing.T) {
	for _, n := range []int{1, 2, 63, 64, 65, 255, 256} {
		expect(t, [][2]string{{one(slots.New(n)), strings.TrimSpace(strings.Repeat("0 ", n)) + " ok"}})
	}
	for _, n := range []int{0, -1, 257, math.MinInt, math.MaxInt, 1<<32 + 1} {
		expect(t, [][2]string{{say(slots.New(n)), "{[] []} range"}})
	}
	ints := func(n int) []int { return make([]int, n) }
	bools := func(n int) []bool { return make([]bool, n) }
	for _, c := range []struct {
		s    api.Slots
		want string
	}{
		{api.Slots{}, "range 0"},
		{api.Slots{Refs: ints(257), Busy: bools(257)}, "range 0"},
		{api.Slots{Refs: append(ints(256), 999), Busy: bools(257)}, "range 0"},
		{api.Slots{Refs: []int{-1, 3}, Busy: bools(1)}, "form 0"},
		{api.Slots{Refs: ints(3), Busy: bools(4)}, "form 0"},
		{api.Slots{Refs: ints(3)}, "form 0"},
		{of("513"), "count 0"},
		{of("512 0 -1 600"), "count 2"},
		{api.Slots{Refs: []int{0, math.MaxInt}, Busy: bools(2)}, "count 1"},
		{api.Slots{Refs: []int{0, 5, math.MinInt}, Busy: bools(3)}, "count 2"},
	} {
		expect(t, [][2]string{{say(slots.Check(c.s)), c.want}})
		e := strings.Fields(c.want)[0]
		for _, n := range []int{0, 1, -1, 999} {
			expect(t, [][2]string{
				{say(slots.Alloc(c.s, n)), "{[] []} 0 " + e},
				{say(slots.Ref(c.s, n)), "{[] []} " + e},
				{say(slots.Unref(c.s, n)), "{[] []} false " + e},
				{say(slots.Start(c.s, n)), "{[] []} " + e},
				{say(slots.Settle(c.s, n)), "{[] []} false " + e},
				{say(slots.Count(c.s)), "0 0 0 " + e},
				{say(slots.First(c.s)), "0 " + e},
			})
		}
	}
	for _, n := range []int{-1, 3, 256, math.MinInt, math.MaxInt, 1 << 32} {
		s := of("2b 0 1")
		expect(t, [][2]string{
			{say(slots.Check(s)), "ok 0"},
			{say(slots.Ref(s, n)), "{[] []} range"},
			{say(slots.Unref(s, n)), "{[] []} false range"},
			{say(slots.Start(s, n)), "{[] []} range"},
			{say(slots.Settle(s, n)), "{[] []} false range"},
		})
	}
}

// some returns slots, always the same ones for a number.
func some(seed uint64) api.Slots {
	r := rand.New(rand.NewPCG(seed, 18))
	var s api.Slots
	full := r.IntN(130)
	for range []int{1, 2, 5, 63, 64, 65, 128, 200, 256}[seed%9] {
		n := []int{0, 1, 2, 511, 512, 7}[r.IntN(6)]
		busy := r.IntN(2) == 0
		if len(s.Refs) < full && n == 0 {
			busy = true
		}
		s.Refs, s.Busy = append(s.Refs, n), append(s.Busy, busy)
	}
	return s
}

// least returns the least free slot, -1 for none.
func least(s api.Slots) int {
	for i, n := range s.Refs {
		if n == 0 && !s.Busy[i] {
			return i
		}
	}
	return -1
}

// with returns slots in which one has other references and is busy or not.
func with(s api.Slots, i, refs int, busy bool) api.Slots {
	c := api.Slots{Refs: slices.Clone(s.Refs), Busy: slices.Clone(s.Busy)}
	c.Refs[i], c.Busy[i] = refs, busy
	return c
}

// scribble writes over results, and checks that the argument does not notice.
func scribble(t *testing.T, arg api.Slots, before string, result api.Slots) {
	t.Helper()
	for i := range result.Refs {
		result.Refs[i], result.Busy[i] = 777, !result.Busy[i]
	}
	if say(arg) != before {
		t.Fatal("an argument was changed")
	}
}

// P18.2, P18.5

func TestAlloc(t *testing.T) {
	for seed := range uint64(150) {
		s := some(seed)
		before := say(s)
		first := least(s)
		if first < 0 {
			expect(t, [][2]string{{say(slots.First(s)), "0 full"}, {slot(slots.Alloc(s, 1)), " 0 full"}})
		} else {
			expect(t, [][2]string{{say(slots.First(s)), say(first, "ok")}})
			for _, n := range []int{1, 2, 512} {
				expect(t, [][2]string{{slot(slots.Alloc(s, n)), say(show(with(s, first, n, true)), first, "ok")}})
			}
			c, _, _ := slots.Alloc(s, 3)
			scribble(t, s, before, c)
		}
		for _, n := range []int{0, -1, 513, math.MinInt, math.MaxInt, 1<<32 + 1} {
			expect(t, [][2]string{{slot(slots.Alloc(s, n)), " 0 count"}})
		}
	}
}

// P18.3, P18.4, P18.6

func TestChanges(t *testing.T) {
	for seed := range uint64(60) {
		s := some(seed)
		before := say(s)
		for i, n := range s.Refs {
			busy := s.Busy[i]
			ref := one(with(s, i, n+1, busy), api.OK)
			switch {
			case n == 0 && !busy:
				ref = " state"
			case n == 512:
				ref = " count"
			}
			unref, start, settle := " false count", " busy", " false state"
			if n > 0 {
				unref = free(with(s, i, n-1, busy), n == 1 && !busy, api.OK)
			}
			if !busy {
				start = " state"
				if n > 0 {
					start = one(with(s, i, n, true), api.OK)
				}
			}
			if busy {
				settle = free(with(s, i, n, false), n == 0, api.OK)
			}
			expect(t, [][2]string{{one(slots.Ref(s, i)), ref}, {free(slots.Unref(s, i)), unref}, {one(slots.Start(s, i)), start}, {free(slots.Settle(s, i)), settle}})
			if c, err := slots.Ref(s, i); err == api.OK {
				back, _, err := slots.Unref(c, i)
				expect(t, [][2]string{{say(back, err), before + " ok"}})
				scribble(t, s, before, c)
			}
			if c, err := slots.Start(s, i); err == api.OK {
				back, _, err := slots.Settle(c, i)
				expect(t, [][2]string{{say(back, err), before + " ok"}})
				scribble(t, s, before, c)
			}
			if c, _, err := slots.Unref(s, i); err == api.OK {
				scribble(t, s, before, c)
			}
			if c, _, err := slots.Settle(s, i); err == api.OK {
				scribble(t, s, before, c)
			}
		}
	}
}

// P18.4, P18.7

func TestCount(t *testing.T) {
	for seed := range uint64(150) {
		s := some(seed)
		free, busy, refs, used := 0, 0, 0, 0
		for i, n := range s.Refs {
			refs += n
			switch {
			case s.Busy[i]:
				busy++
			case n == 0:
				free++
			default:
				used++
			}
		}
		expect(t, [][2]string{{say(slots.Count(s)), say(free, busy, refs, "ok")}})
		if free+busy+used != len(s.Refs) {
			t.Fatal(s)
		}
	}
}

// P18.5, P18.8

func TestTheoremRuns(t *testing.T) {
	r := rand.New(rand.NewPCG(18, 18))
	s, _ := slots.New(5)
	for range 3000 {
		i := r.IntN(5)
		isFree := s.Refs[i] == 0 && !s.Busy[i]
		var next api.Slots
		now, err := false, api.OK
		switch r.IntN(5) {
		case 0:
			var got int
			next, got, err = slots.Alloc(s, 1+r.IntN(3))
			if err == api.OK && (s.Refs[got] != 0 || s.Busy[got] || got != least(s)) {
				t.Fatal(s, got)
			}
		case 1:
			next, err = slots.Ref(s, i)
		case 2:
			next, err = slots.Start(s, i)
		case 3:
			next, now, err = slots.Unref(s, i)
		case 4:
			next, now, err = slots.Settle(s, i)
		}
		if err != api.OK {
			continue
		}
		if now && (isFree || next.Refs[i] != 0 || next.Busy[i]) {
			t.Fatal(s, i, next)
		}
		s = next
	}
	// Whatever comes last, the references or the settling: the slot is free behind it.
	for last := range 4 {
		s, _, _ := slots.Alloc(of("0 1"), 3)
		for k := range 4 {
			var f bool
			if k == last {
				s, f, _ = slots.Settle(s, 0)
			} else {
				s, f, _ = slots.Unref(s, 0)
			}
			if f != (k == 3) {
				t.Fatal(last, k, s, f)
			}
		}
	}
}

// The examples of the chapter.

func TestExamples(t *testing.T) {
	expect(t, [][2]string{
		{slot(slots.Alloc(of("0 0"), 2)), "2b 0 0 ok"},
		{slot(slots.Alloc(of("2b 0"), 1)), "2b 1b 1 ok"},
		{slot(slots.Alloc(of("2b 1b"), 1)), " 0 full"},
		{slot(slots.Alloc(of("0 0"), 0)), " 0 count"},
		{slot(slots.Alloc(of("2b 1b"), 0)), " 0 count"},
		{one(slots.Ref(of("2 0"), 0)), "3 0 ok"},
		{one(slots.Ref(of("2 0"), 1)), " state"},
		{one(slots.Ref(of("0b 0"), 0)), "1b 0 ok"},
		{free(slots.Unref(of("2b 0"), 0)), "1b 0 false ok"},
		{free(slots.Unref(of("1 0"), 0)), "0 0 true ok"},
		{free(slots.Unref(of("1b 0"), 0)), "0b 0 false ok"},
		{free(slots.Unref(of("0 0"), 0)), " false count"},
		{free(slots.Settle(of("2b 0"), 0)), "2 0 false ok"},
		{free(slots.Settle(of("0b 0"), 0)), "0 0 true ok"},
		{free(slots.Settle(of("2 0"), 0)), " false state"},
		{one(slots.Start(of("2 0"), 0)), "2b 0 ok"},
		{one(slots.Start(of("2b 0"), 0)), " busy"},
		{one(slots.Start(of("0 0"), 0)), " state"},
		{say(slots.Count(of("2b 0 1 0b"))), "1 2 3 ok"},
		{say(slots.First(of("2b 0 1"))), "1 ok"},
		{say(slots.First(of("2b 1"))), "0 full"},
		{say(slots.New(0)), "{[] []} range"},
		{say(slots.Check(of("513"))), "count 0"},
	})
}
