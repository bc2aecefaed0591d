package fork_test

import (
	"fmt"
	"math"
	"math/rand/v2"
	"slices"
	"strings"
	"testing"

	"headgate/api"
	"headgate/entry"
	"headgate/fork"
	"headgate/region"
	"headgate/space"
)

// say writes values with blanks between them, errors by their names.
func say(l ...any) string { return strings.TrimSuffix(fmt.Sprintln(l...), "\n") }

// expect compares what calls gave with what they should give.
func expect(t *testing.T, l [][2]string) {
	t.Helper()
	for i, c := range l {
		if c[0] != c[1] {
			t.Fatalf("case %d: %.700q, not %.700q", i, c[0], c[1])
		}
	}
}

func pack(s string) uint64 {
	e, err := entry.Parse(s)
	if err != api.OK {
		panic(s)
	}
	w, _ := entry.Pack(e)
	return w
}

func unpack(w uint64) api.Entry {
	e, _ := entry.Unpack(w)
	return e
}

// of makes an address space with a root, and leaves from 100 on where a page has an entry, or leaf is named.
func of(root int, regions []api.Range, entries map[int]string, leaves ...int) api.AddressSpace {
	s := api.AddressSpace{Regions: regions, Table: api.Table{Root: root, Leaves: slices.Repeat([]int{-1}, 8), Entries: make([]uint64, 64)}}
	for page, text := range entries {
		s.Table.Entries[page] = pack(text)
		s.Table.Leaves[page/8] = 100 + page/8
	}
	for _, leaf := range leaves {
		s.Table.Leaves[leaf] = 100 + leaf
	}
	return s
}

// some returns an address space, always the same one for a number.
func some(seed uint64) api.AddressSpace {
	r := rand.New(rand.NewPCG(seed, 28))
	var regions []api.Range
	entries := map[int]string{}
	share := r.IntN(5)
	for page := r.IntN(9); page < 64; page += 2 + r.IntN(12) {
		to := min(63, page+r.IntN(10))
		regions = append(regions, api.Range{From: page, To: to})
		for p := page; p <= to; p++ {
			if r.IntN(4) < share {
				entries[p] = []string{"p5w", "p5c", "p6cr", "s0", "s9", "p255wr", fmt.Sprintf("p%dw", 20+p), fmt.Sprintf("p%dcr", 20+p)}[r.IntN(8)]
			}
		}
		page = to
	}
	return of(3, regions, entries, r.IntN(8))
}

// scribble writes over a result, and checks that the argument does not notice.
func scribble(t *testing.T, arg api.AddressSpace, before string, result api.AddressSpace) {
	t.Helper()
	for i := range result.Regions {
		result.Regions[i].From = 777
	}
	for i := range result.Table.Leaves {
		result.Table.Leaves[i] = 777
	}
	for i := range result.Table.Entries {
		result.Table.Entries[i] = 777
	}
	if say(arg) != before {
		t.Fatal("an argument was changed")
	}
}

// leaves returns how many leaves an address space has.
func leaves(s api.AddressSpace) (n int) {
	for _, leaf := range s.Table.Leaves {
		if leaf >= 0 {
			n++
		}
	}
	return n
}

// fresh returns n frames that no address space of some has.
func fresh(n int) []int {
	var l []int
	for i := range n {
		l = append(l, 210-3*i)
	}
	return l
}

var none = say(api.AddressSpace{})

// bad are address spaces that are not valid, with their errors.
func bad() map[api.Errno]api.AddressSpace {
	order := of(3, []api.Range{{From: 5, To: 6}, {From: 7, To: 7}}, nil)
	state := of(-1, nil, map[int]string{9: "s5"})
	unmapped := of(3, nil, map[int]string{9: "s5"})
	state.Regions = []api.Range{{From: 9, To: 9}}
	return map[api.Errno]api.AddressSpace{api.ErrForm: {}, api.ErrOrder: order, api.ErrState: state, api.ErrExists: of(100, nil, nil, 0), api.ErrKind: {Table: api.Table{Root: 3, Leaves: slices.Repeat([]int{-1}, 8), Entries: append(make([]uint64, 63), 3)}}, -1: unmapped}
}

// P28.1

func TestErrors(t *testing.T) {
	good := some(3)
	counts := make([]int, 256)
	for err, s := range bad() {
		if err < 0 {
			err = api.ErrState
		}
		expect(t, [][2]string{
			{say(fork.Needs(s)), say(0, err)},
			{say(fork.Fork(s, nil)), say(none, none, err)},
			{say(fork.Shared(s)), say("[] []", err)},
			{say(fork.Same(s, good)), say(false, err)},
			{say(fork.Same(good, s)), say(false, err)},
			{say(fork.Differ(s, good)), say("[]", err)},
			{say(fork.Differ(good, s)), say("[]", err)},
			{say(fork.Counts([]api.AddressSpace{good, s})), say("[]", err)},
			{say(fork.Own(s, nil)), say(none, 0, err)},
			{say(fork.Own(s, counts)), say(none, 0, err)},
		})
		expect(t, [][2]string{{say(fork.Counts(slices.Repeat([]api.AddressSpace{s}, 9))), "[] count"}, {say(fork.Same(s, api.AddressSpace{})), say(false, err)}})
	}
	bare := of(-1, []api.Range{{From: 3, To: 5}}, nil)
	expect(t, [][2]string{
		{say(fork.Needs(bare)), "0 state"},
		{say(fork.Fork(bare, nil)), say(none, none, "state")},
		{say(fork.Fork(bare, []int{1, 2})), say(none, none, "state")},
		{say(fork.Shared(bare)), "[] [] ok"},
		{say(fork.Same(bare, bare)), "true ok"},
		{say(fork.Own(bare, counts)), say(bare, "0 ok")},
		{say(fork.Counts(slices.Repeat([]api.AddressSpace{bare}, 8))), say(counts, "ok")},
		{say(fork.Counts(slices.Repeat([]api.AddressSpace{bare}, 9))), "[] count"},
	})
	for _, n := range []int{0, 255, 257} {
		expect(t, [][2]string{{say(fork.Own(good, make([]int, n))), none + " 0 count"}})
	}
	counts[255] = -1
	expect(t, [][2]string{{say(fork.Own(good, counts)), none + " 0 count"}})
}

// P28.1, P28.2, P28.5, P28.6, P28.7

func TestFork(t *testing.T) {
	for seed := range uint64(100) {
		s := some(seed)
		before := say(s)
		n := leaves(s) + 1
		frames := fresh(n)
		expect(t, [][2]string{{say(fork.Needs(s)), say(n, "ok")}})
		want := [2]api.AddressSpace{}
		for side := range want {
			w := &want[side]
			w.Regions, w.Table = slices.Clone(s.Regions), api.Table{Root: s.Table.Root, Leaves: slices.Clone(s.Table.Leaves), Entries: slices.Clone(s.Table.Entries)}
			for page, word := range w.Table.Entries {
				if e := unpack(word); e.Kind == api.Present {
					e.Writable, e.Cow = false, true
					e.Referenced = e.Referenced && side == 0
					w.Table.Entries[page], _ = entry.Pack(e)
				}
			}
		}
		rest := frames[1:]
		want[1].Table.Root = frames[0]
		for i, leaf := range want[1].Table.Leaves {
			if leaf >= 0 {
				want[1].Table.Leaves[i], rest = rest[0], rest[1:]
			}
		}
		parent, child, err := fork.Fork(s, frames)
		expect(t, [][2]string{{say(parent, child, err), say(want[0], want[1], "ok")}, {say(frames), say(fresh(n))}})
		again, grandchild, err := fork.Fork(child, slices.Repeat([]int{230}, 1)[:0])
		if err != api.ErrCount {
			t.Fatal(again, grandchild, err)
		}
		more := []int{}
		for i := range n {
			more = append(more, 240-i)
		}
		_, grandchild, err = fork.Fork(child, more)
		for _, p := range [][2]api.AddressSpace{{s, parent}, {s, child}, {parent, child}, {s, grandchild}, {child, grandchild}} {
			expect(t, [][2]string{{say(fork.Same(p[0], p[1])), "true ok"}, {say(fork.Differ(p[0], p[1])), "[] ok"}, {say(space.Check(p[1])), "ok"}, {say(err), "ok"}})
		}
		counted(t, s, parent, child)
		scribble(t, s, before, parent)
		scribble(t, s, before, child)
	}
}

// counted checks Shared, and Counts before and after a fork.
func counted(t *testing.T, s, parent, child api.AddressSpace) {
	t.Helper()
	var frames, slots []int
	counts, after := make([]int, 256), make([]int, 256)
	for _, w := range s.Table.Entries {
		switch e := unpack(w); e.Kind {
		case api.Present:
			frames = append(frames, e.Number)
			counts[e.Number]++
			after[e.Number] += 2
		case api.Swapped:
			slots = append(slots, e.Number)
		}
	}
	expect(t, [][2]string{
		{say(fork.Shared(s)), say(frames, slots, "ok")},
		{say(fork.Counts([]api.AddressSpace{s})), say(counts, "ok")},
		{say(fork.Counts([]api.AddressSpace{parent, child})), say(after, "ok")},
	})
}

// P28.2

func TestForkFrames(t *testing.T) {
	s := of(0, []api.Range{{From: 3, To: 12}}, map[int]string{3: "p7wr", 4: "s2", 9: "p8c"})
	for _, c := range []struct {
		frames []int
		err    api.Errno
	}{
		{[]int{1, 2, 3}, api.OK}, {[]int{255, 254, 2}, api.OK}, {[]int{1, 2}, api.ErrCount}, {[]int{1, 2, 3, 4}, api.ErrCount}, {nil, api.ErrCount}, {[]int{0, 0}, api.ErrCount},
		{[]int{1, 2, 0}, api.ErrExists}, {[]int{1, 2, 100}, api.ErrExists}, {[]int{101, 2, 3}, api.ErrExists}, {[]int{1, 7, 3}, api.ErrExists}, {[]int{1, 8, 3}, api.ErrExists}, {[]int{1, 2, 1}, api.ErrExists}, {[]int{2, 2, 1}, api.ErrExists},
		{[]int{1, 2, 256}, api.ErrRange}, {[]int{-1, 2, 3}, api.ErrRange}, {[]int{1, math.MaxInt, 3}, api.ErrRange}, {[]int{math.MinInt, 7, 3}, api.ErrRange}, {[]int{7, 256, 3}, api.ErrExists}, {[]int{256, 7, 3}, api.ErrRange},
	} {
		_, _, err := fork.Fork(s, c.frames)
		if err != c.err {
			t.Error(c, err)
		}
		if p, q, err := fork.Fork(s, c.frames); err != api.OK {
			expect(t, [][2]string{{say(p, q), say(none, none)}})
		}
	}
}

// P28.3, P28.7

func TestDiffer(t *testing.T) {
	for seed := range uint64(100) {
		a, b := some(seed), some(seed/2+50)
		if seed%3 == 0 {
			b = some(seed)
			b.Table.Root = 99
			for page, w := range b.Table.Entries {
				if e := unpack(w); e.Kind == api.Present && page%3 == 0 {
					e.Writable, e.Cow, e.Referenced = e.Cow, e.Writable, !e.Referenced
					b.Table.Entries[page], _ = entry.Pack(e)
				}
			}
		}
		var want []int
		for page := range 64 {
			x, _ := region.Has(a.Regions, page)
			y, _ := region.Has(b.Regions, page)
			e, f := unpack(a.Table.Entries[page]), unpack(b.Table.Entries[page])
			if x != y || e.Kind != f.Kind || e.Number != f.Number {
				want = append(want, page)
			}
		}
		expect(t, [][2]string{
			{say(fork.Differ(a, b)), say(want, "ok")},
			{say(fork.Differ(b, a)), say(want, "ok")},
			{say(fork.Same(a, b)), say(len(want) == 0, "ok")},
		})
	}
}

// P28.4, P28.8, P28.9

func TestOwn(t *testing.T) {
	for seed := range uint64(100) {
		s := some(seed)
		before := say(s)
		r := rand.New(rand.NewPCG(seed, 29))
		counts := make([]int, 256)
		for i := range counts {
			counts[i] = []int{0, 1, 2, 999}[r.IntN(4)]
		}
		want, n := slices.Clone(s.Table.Entries), 0
		for page, w := range want {
			if e := unpack(w); e.Cow && counts[e.Number] < 2 {
				e.Writable, e.Cow = true, false
				want[page], _ = entry.Pack(e)
				n++
			}
		}
		got, m, err := fork.Own(s, counts)
		expect(t, [][2]string{
			{say(got, m, err), say(api.AddressSpace{Regions: s.Regions, Table: api.Table{Root: s.Table.Root, Leaves: s.Table.Leaves, Entries: want}}, n, "ok")},
			{say(fork.Own(got, counts)), say(got, "0 ok")},
		})
		scribble(t, s, before, got)
		parent, _, err := fork.Fork(s, fresh(leaves(s)+1))
		if err != api.OK {
			t.Fatal(err)
		}
		alone, _ := fork.Counts([]api.AddressSpace{parent})
		back, _, _ := fork.Own(parent, alone)
		for page, w := range s.Table.Entries {
			if e := unpack(w); e.Kind == api.Present && unpack(back.Table.Entries[page]).Writable != (alone[e.Number] == 1) {
				t.Fatal(s, back, page)
			}
		}
	}
}

// The examples of the chapter.

func TestExamples(t *testing.T) {
	s := of(0, []api.Range{{From: 3, To: 5}}, map[int]string{3: "p7wr", 4: "s2"})
	s.Table.Leaves[0] = 1
	expect(t, [][2]string{{say(fork.Needs(s)), "2 ok"}, {say(fork.Shared(s)), "[7] [2] ok"}})
	parent, child, _ := fork.Fork(s, []int{8, 9})
	expect(t, [][2]string{
		{say(unpack(parent.Table.Entries[3])), "{1 7 false true true}"},
		{say(unpack(child.Table.Entries[3])), "{1 7 false true false}"},
		{say(unpack(child.Table.Entries[4]).Number, child.Table.Root, child.Table.Leaves[0]), "2 8 9"},
	})
	for _, c := range []struct {
		frames []int
		err    string
	}{{[]int{8}, "count"}, {[]int{8, 8}, "exists"}, {[]int{8, 7}, "exists"}, {[]int{8, 256}, "range"}} {
		expect(t, [][2]string{{say(fork.Fork(s, c.frames)), say(none, none, c.err)}})
	}
	counts, _ := fork.Counts([]api.AddressSpace{parent, child})
	expect(t, [][2]string{{say(counts[7]), "2"}, {say(fork.Own(parent, counts)), say(parent, "0 ok")}})
	counts[7] = 1
	own, n, _ := fork.Own(parent, counts)
	expect(t, [][2]string{{say(unpack(own.Table.Entries[3]).Writable, n), "true 1"}, {say(fork.Differ(s, child)), "[] ok"}, {say(fork.Differ(s, of(0, nil, nil))), "[3 4 5] ok"}})
}
