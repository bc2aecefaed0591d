package space_test

import (
	"fmt"
	"math"
	"math/rand/v2"
	"slices"
	"strings"
	"testing"

	"headgate/api"
	"headgate/entry"
	"headgate/region"
	"headgate/space"
	"headgate/table"
)

// say writes values with blanks between them, errors by their names.
func say(l ...any) string { return strings.TrimSuffix(fmt.Sprintln(l...), "\n") }

// expect compares what calls gave with what they should give.
func expect(t *testing.T, l [][2]string) {
	t.Helper()
	for i, c := range l {
		if c[0] != c[1] {
			t.Fatalf("case %d: %.700q, not %.700q", i, c[0], c[1])
		}
	}
}

// parse returns the entry of a text, pack its word.
func parse(s string) api.Entry {
	e, err := entry.Parse(s)
	if err != api.OK {
		panic(s)
	}
	return e
}

func pack(s string) uint64 {
	w, _ := entry.Pack(parse(s))
	return w
}

// of makes an address space with the root 3 and leaves from 100 on where a page has an entry, or leaf is named.
func of(regions []api.Range, entries map[int]string, leaves ...int) api.AddressSpace {
	s := api.AddressSpace{Regions: regions, Table: api.Table{Root: 3, Leaves: slices.Repeat([]int{-1}, 8), Entries: make([]uint64, 64)}}
	for page, text := range entries {
		s.Table.Entries[page] = pack(text)
		s.Table.Leaves[page/8] = 100 + page/8
	}
	for _, leaf := range leaves {
		s.Table.Leaves[leaf] = 100 + leaf
	}
	return s
}

// some returns an address space, always the same one for a number.
func some(seed uint64) api.AddressSpace {
	r := rand.New(rand.NewPCG(seed, 27))
	var regions []api.Range
	entries := map[int]string{}
	share := r.IntN(5)
	for page := r.IntN(9); page < 64; page += 2 + r.IntN(12) {
		to := min(63, page+r.IntN(10))
		regions = append(regions, api.Range{From: page, To: to})
		for p := page; p <= to; p++ {
			if r.IntN(4) < share {
				entries[p] = []string{"p5w", "p5c", "p6cr", "s0", "s9", "p255wr"}[r.IntN(6)]
			}
		}
		page = to
	}
	return of(regions, entries, r.IntN(8))
}

// mapped says whether a page is in a region.
func mapped(s api.AddressSpace, page int) bool {
	in, _ := region.Has(s.Regions, page)
	return in
}

// clone returns a copy.
func clone(s api.AddressSpace) api.AddressSpace {
	return api.AddressSpace{Regions: slices.Clone(s.Regions), Table: api.Table{Root: s.Table.Root, Leaves: slices.Clone(s.Table.Leaves), Entries: slices.Clone(s.Table.Entries)}}
}

// scribble writes over a result, and checks that it is valid before, and that the argument does not notice.
func scribble(t *testing.T, arg api.AddressSpace, before string, result api.AddressSpace) {
	t.Helper()
	if err := space.Check(result); err != api.OK {
		t.Fatal(result, err)
	}
	for i := range result.Regions {
		result.Regions[i].From = 777
	}
	for i := range result.Table.Leaves {
		result.Table.Leaves[i] = 777
	}
	for i := range result.Table.Entries {
		result.Table.Entries[i] = 777
	}
	if say(arg) != before {
		t.Fatal("an argument was changed")
	}
}

var none = say(api.AddressSpace{})

var far = []int{math.MinInt, -1 << 32, -1, 257, 300, 1 << 32, 1<<32 + 1, math.MaxInt}

// P27.1

func TestCheck(t *testing.T) {
	good := of([]api.Range{{From: 8, To: 11}}, map[int]string{9: "p5w"})
	bare := api.Table{Root: -1, Leaves: slices.Repeat([]int{-1}, 8), Entries: make([]uint64, 64)}
	for i, c := range []struct {
		s   api.AddressSpace
		err api.Errno
	}{
		{good, api.OK},
		{api.AddressSpace{Table: bare}, api.OK},
		{api.AddressSpace{Regions: []api.Range{{From: 0, To: 63}}, Table: bare}, api.OK},
		{api.AddressSpace{}, api.ErrForm},
		{api.AddressSpace{Regions: []api.Range{{From: 5, To: 4}}}, api.ErrRange},
		{api.AddressSpace{Regions: []api.Range{{From: 5, To: 6}, {From: 7, To: 7}}}, api.ErrOrder},
		{of([]api.Range{{From: 8, To: 8}}, map[int]string{9: "p5w"}), api.ErrState},
		{of(nil, map[int]string{9: "s5"}), api.ErrState},
		{of([]api.Range{{From: 10, To: 63}}, map[int]string{9: "s5"}), api.ErrState},
		{api.AddressSpace{Table: api.Table{Root: 300, Leaves: bare.Leaves, Entries: bare.Entries}}, api.ErrRange},
		{api.AddressSpace{Table: api.Table{Root: 3, Leaves: []int{3, -1, -1, -1, -1, -1, -1, -1}, Entries: bare.Entries}}, api.ErrExists},
		{api.AddressSpace{Table: api.Table{Root: 3, Leaves: bare.Leaves, Entries: append(make([]uint64, 63), 3)}}, api.ErrKind},
		{api.AddressSpace{Table: api.Table{Root: 3, Leaves: bare.Leaves, Entries: append(make([]uint64, 63), pack("s1"))}}, api.ErrState},
	} {
		if err := space.Check(c.s); err != c.err {
			t.Error(i, err, c.err)
		}
		if c.err == api.OK {
			continue
		}
		for _, n := range []int{0, 9, -1} {
			e := c.err.Error()
			expect(t, [][2]string{
				{say(space.Access(c.s, n, true, n)), "0 " + e},
				{say(space.Map(c.s, n, n, n)), none + " " + e},
				{say(space.Unmap(c.s, n, n)), none + " [] " + e},
				{say(space.Empty(c.s)), none + " [] [] " + e},
				{say(space.Set(c.s, n, api.Entry{Kind: 9})), none + " " + e},
				{say(space.Owner(c.s, n)), "[] " + e},
				{say(space.Moved(c.s, n, n)), none + " 0 " + e},
				{say(space.Size(c.s)), "0 " + e},
			})
		}
	}
}

// P27.1, P27.5

func TestAccess(t *testing.T) {
	for seed := range uint64(60) {
		s := some(seed)
		for page := range 64 {
			e, _ := entry.Unpack(s.Table.Entries[page])
			for _, count := range []int{0, 1, 2, 256} {
				for _, write := range []bool{false, true} {
					want := 0
					switch {
					case !mapped(s, page):
						want = api.Faulty
					case e.Kind == api.None && !write:
						want = api.Zero
					case e.Kind == api.None && s.Table.Leaves[page/8] < 0:
						want = api.Leafless
					case e.Kind == api.None:
						want = api.Fill
					case e.Kind == api.Swapped:
						want = api.Fetch
					case !write || e.Writable:
						want = api.Ready
					case count > 1:
						want = api.Copy
					default:
						want = api.Own
					}
					expect(t, [][2]string{{say(space.Access(s, page, write, count)), say(want, "ok")}})
				}
			}
		}
		for _, n := range far {
			expect(t, [][2]string{{say(space.Access(s, n, true, 1)), "0 range"}, {say(space.Access(s, 64, true, 1)), "0 range"}, {say(space.Access(s, 9, false, n)), "0 range"}})
		}
	}
}

// P27.2, P27.4, P27.7

func TestMapUnmap(t *testing.T) {
	for seed := range uint64(25) {
		s := some(seed)
		before := say(s)
		for from := 0; from < 64; from += 1 + int(seed)%3 {
			for to := from; to < 64; to += 1 + int(seed)%4 {
				regions, err := region.Map(s.Regions, from, to, 40)
				want := say(none, err)
				if err == api.OK {
					want = say(api.AddressSpace{Regions: regions, Table: s.Table}, err)
				}
				got, bad := space.Map(s, from, to, 40)
				expect(t, [][2]string{{say(got, bad), want}})
				if bad == api.OK {
					scribble(t, s, before, got)
				}
				unmap(t, s, before, from, to)
			}
		}
		for _, n := range append([]int{64}, far...) {
			expect(t, [][2]string{{say(space.Map(s, n, 5, 64)), none + " range"}, {say(space.Map(s, 5, n, 64)), none + " range"}, {say(space.Unmap(s, n, 5)), none + " [] range"}, {say(space.Unmap(s, 5, n)), none + " [] range"}})
		}
	}
}

// unmap checks Unmap.
func unmap(t *testing.T, s api.AddressSpace, before string, from, to int) {
	t.Helper()
	regions, err := region.Unmap(s.Regions, from, to)
	got, lost, bad := space.Unmap(s, from, to)
	if err != api.OK {
		expect(t, [][2]string{{say(got, lost, bad), say(none, "[]", err)}})
		return
	}
	want := clone(s)
	want.Regions = regions
	var losses []api.Lost
	for page := from; page <= to; page++ {
		e, _ := entry.Unpack(want.Table.Entries[page])
		if e.Kind == api.None {
			continue
		}
		next, leaf, _ := table.Clear(want.Table, page)
		want.Table = next
		losses = append(losses, api.Lost{Page: page, Entry: e, Leaf: leaf})
	}
	expect(t, [][2]string{{say(got, lost, bad), say(want, losses, "ok")}})
	scribble(t, s, before, got)
}

// P27.2, P27.7

func TestEmpty(t *testing.T) {
	for seed := range uint64(60) {
		s := some(seed)
		before := say(s)
		var losses []api.Lost
		for page := range 64 {
			if e, _ := entry.Unpack(s.Table.Entries[page]); e.Kind != api.None {
				losses = append(losses, api.Lost{Page: page, Entry: e, Leaf: -1})
			}
		}
		frames, _ := table.Frames(s.Table)
		bare := api.AddressSpace{Table: api.Table{Root: -1, Leaves: slices.Repeat([]int{-1}, 8), Entries: make([]uint64, 64)}}
		got, lost, l, err := space.Empty(s)
		expect(t, [][2]string{{say(got, lost, l, err), say(bare, losses, frames, "ok")}, {say(space.Size(s)), say(len(losses), "ok")}})
		scribble(t, s, before, got)
	}
}

// P27.3, P27.4, P27.6

func TestSet(t *testing.T) {
	for seed := range uint64(60) {
		s := some(seed)
		before := say(s)
		for page := range 64 {
			for _, text := range []string{"-", "p7w", "p7cr", "s8"} {
				want := none + " missing"
				if mapped(s, page) {
					want = none + " state"
				}
				if mapped(s, page) && (text == "-" || s.Table.Leaves[page/8] >= 0) {
					c := clone(s)
					c.Table.Entries[page] = pack(text)
					want = say(c, "ok")
				}
				c, err := space.Set(s, page, parse(text))
				expect(t, [][2]string{{say(c, err), want}})
				if err != api.OK {
					continue
				}
				for _, count := range []int{0, 1, 2, 256} {
					if text == "p7w" {
						expect(t, [][2]string{{say(space.Access(c, page, true, count)), "3 ok"}, {say(space.Access(c, page, false, count)), "3 ok"}})
					}
				}
				scribble(t, s, before, c)
			}
			want := none + " missing"
			if mapped(s, page) {
				want = none + " kind"
			}
			expect(t, [][2]string{{say(space.Set(s, page, api.Entry{Kind: 3})), want}})
		}
		for _, n := range append([]int{64}, far...) {
			expect(t, [][2]string{{say(space.Set(s, n, api.Entry{Kind: 9})), none + " range"}})
		}
	}
}

// P27.3, P27.8

func TestOwnerMoved(t *testing.T) {
	for seed := range uint64(60) {
		s := some(seed)
		before := say(s)
		for _, frame := range []int{0, 5, 6, 255} {
			var owned []int
			for page := range 64 {
				if e, _ := entry.Unpack(s.Table.Entries[page]); e.Kind == 1 && e.Number == frame {
					owned = append(owned, page)
				}
			}
			expect(t, [][2]string{{say(space.Owner(s, frame)), say(owned, "ok")}})
			for _, slot := range []int{0, 77, 255} {
				c := clone(s)
				for _, page := range owned {
					c.Table.Entries[page] = pack(fmt.Sprint("s", slot))
				}
				got, n, err := space.Moved(s, frame, slot)
				expect(t, [][2]string{{say(got, n, err), say(c, len(owned), "ok")}, {say(space.Owner(got, frame)), "[] ok"}})
				scribble(t, s, before, got)
			}
		}
		for _, n := range append([]int{256}, far...) {
			expect(t, [][2]string{{say(space.Owner(s, n)), "[] range"}, {say(space.Moved(s, n, 5)), none + " 0 range"}, {say(space.Moved(s, 5, n)), none + " 0 range"}})
		}
	}
}

// The examples of the chapter.

func TestExamples(t *testing.T) {
	with := func(from int, entries map[int]string) api.AddressSpace {
		s := of([]api.Range{{From: from, To: 11}}, entries)
		s.Table.Leaves[1] = 7
		return s
	}
	s := with(8, map[int]string{9: "p5w", 10: "s2"})
	expect(t, [][2]string{
		{say(space.Access(s, 8, false, 0)), "2 ok"},
		{say(space.Access(s, 8, true, 0)), "6 ok"},
		{say(space.Access(s, 9, false, 1)), "3 ok"},
		{say(space.Access(s, 9, true, 1)), "3 ok"},
		{say(space.Access(s, 10, false, 0)), "8 ok"},
		{say(space.Access(s, 12, false, 0)), "1 ok"},
		{say(space.Access(with(0, map[int]string{9: "p5w"}), 0, true, 0)), "5 ok"},
	})
	cow := with(8, map[int]string{9: "p5c"})
	for count, want := range []string{"4 ok", "4 ok", "7 ok"} {
		expect(t, [][2]string{{say(space.Access(cow, 9, true, count)), want}})
	}
	_, lost, _ := space.Unmap(s, 9, 10)
	expect(t, [][2]string{{say(lost), say([]api.Lost{{Page: 9, Entry: parse("p5w"), Leaf: -1}, {Page: 10, Entry: parse("s2"), Leaf: 7}})}})
	_, lost, err := space.Unmap(s, 8, 8)
	expect(t, [][2]string{{say(lost, err), "[] ok"}, {say(space.Unmap(s, 7, 8)), none + " [] missing"}})
	_, lost, frames, _ := space.Empty(s)
	expect(t, [][2]string{{say(lost, frames), say([]api.Lost{{Page: 9, Entry: parse("p5w"), Leaf: -1}, {Page: 10, Entry: parse("s2"), Leaf: -1}}, "[7 3]")}})
	moved, n, _ := space.Moved(s, 5, 4)
	expect(t, [][2]string{{say(space.Owner(s, 5)), "[9] ok"}, {say(moved.Table.Entries[9], n), say(pack("s4"), 1)}, {say(space.Set(s, 12, parse("p6w"))), none + " missing"}})
}
