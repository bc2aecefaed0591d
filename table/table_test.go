package table_test

import (
	"fmt"
	"math"
	"math/rand/v2"
	"slices"
	"strings"
	"testing"

	"headgate/api"
	"headgate/entry"
	"headgate/table"
)

// say writes values with blanks between them, errors by their names.
func say(l ...any) string { return strings.TrimSuffix(fmt.Sprintln(l...), "\n") }

// expect compares what calls gave with what they should give.
func expect(t *testing.T, l [][2]string) {
	t.Helper()
	for i, c := range l {
		if c[0] != c[1] {
			t.Fatalf("case %d: %.500q, not %.500q", i, c[0], c[1])
		}
	}
}

// bare returns a table with a root and nothing else.
func bare(root int) api.Table {
	return api.Table{Root: root, Leaves: slices.Repeat([]int{-1}, 8), Entries: make([]uint64, 64)}
}

// pack returns the word of the entry of a text.
func pack(s string) uint64 {
	e, err := entry.Parse(s)
	if err != api.OK {
		panic(s)
	}
	w, _ := entry.Pack(e)
	return w
}

// parse returns the entry of a text.
func parse(s string) api.Entry {
	e, _ := entry.Parse(s)
	return e
}

// texts are entries that some pages have.
var texts = []string{"p5w", "p5c", "p255wr", "s0", "s255", "p0cr"}

// some returns a valid table, always the same one for a number.
func some(seed uint64) api.Table {
	r := rand.New(rand.NewPCG(seed, 23))
	frames := r.Perm(256)
	t := bare(frames[8])
	if seed%10 == 0 {
		return bare(-1)
	}
	for leaf := range 8 {
		if r.IntN(3) == 0 {
			continue
		}
		t.Leaves[leaf] = frames[leaf]
		few := r.IntN(4)
		for i := range 8 {
			if r.IntN(4) < few {
				t.Entries[8*leaf+i] = pack(texts[r.IntN(len(texts))])
			}
		}
	}
	return t
}

// clone returns a copy of a table.
func clone(t api.Table) api.Table {
	return api.Table{Root: t.Root, Leaves: slices.Clone(t.Leaves), Entries: slices.Clone(t.Entries)}
}

// scribble writes over a result, and checks that the argument does not notice.
func scribble(t *testing.T, arg api.Table, before string, result api.Table) {
	t.Helper()
	for i := range result.Leaves {
		result.Leaves[i] = 777
	}
	for i := range result.Entries {
		result.Entries[i] = 777
	}
	if say(arg) != before {
		t.Fatal("an argument was changed")
	}
}

// empty says whether no page of a leaf has an entry.
func empty(t api.Table, leaf int) bool {
	return !slices.ContainsFunc(t.Entries[8*leaf:8*leaf+8], func(w uint64) bool { return w != 0 })
}

const none = "{0 [] []}"
const noEntry = "{0 0 false false false}"

var far = []int{math.MinInt, -1 << 32, -2, 256, 257, 1 << 32, 1<<32 + 1, math.MaxInt}

// P23.1

func TestNewCheck(t *testing.T) {
	for root := -1; root < 256; root++ {
		expect(t, [][2]string{{say(table.New(root)), say(bare(root), "ok")}})
	}
	for _, root := range far {
		expect(t, [][2]string{{say(table.New(root)), none + " range"}})
	}
	for i, c := range []struct {
		change func(t *api.Table)
		err    api.Errno
	}{
		{func(t *api.Table) {}, api.OK},
		{func(t *api.Table) { t.Leaves = t.Leaves[:7]; t.Root = 999 }, api.ErrForm},
		{func(t *api.Table) { t.Leaves = append(t.Leaves, -1) }, api.ErrForm},
		{func(t *api.Table) { t.Entries = t.Entries[:63] }, api.ErrForm},
		{func(t *api.Table) { t.Entries = append(t.Entries, 0) }, api.ErrForm},
		{func(t *api.Table) { t.Leaves, t.Entries = nil, nil }, api.ErrForm},
		{func(t *api.Table) { t.Root = 256; t.Leaves[1] = t.Leaves[0] }, api.ErrRange},
		{func(t *api.Table) { t.Root = -2 }, api.ErrRange},
		{func(t *api.Table) { t.Leaves[7] = 256; t.Leaves[1] = t.Leaves[0] }, api.ErrRange},
		{func(t *api.Table) { t.Leaves[7] = -2 }, api.ErrRange},
		{func(t *api.Table) { t.Leaves[7] = math.MaxInt }, api.ErrRange},
		{func(t *api.Table) { t.Leaves[2] = 3 }, api.ErrExists},
		{func(t *api.Table) { t.Leaves[2] = 7; t.Entries[0] = 3 }, api.ErrExists},
		{func(t *api.Table) { t.Root = 7 }, api.ErrExists},
		{func(t *api.Table) { t.Root = -1; t.Entries[0] = 3 }, api.ErrState},
		{func(t *api.Table) { t.Root = -1; t.Leaves[2] = 7 }, api.ErrExists},
		{func(t *api.Table) { t.Leaves[1] = -1 }, api.ErrState},
		{func(t *api.Table) { t.Entries[16] = pack("s3") }, api.ErrState},
		{func(t *api.Table) { t.Entries[16], t.Entries[17] = pack("s3"), 3 }, api.ErrState},
		{func(t *api.Table) { t.Entries[15], t.Entries[17] = 0x711, pack("s3") }, api.ErrForm},
		{func(t *api.Table) { t.Entries[63] = 3 }, api.ErrKind},
		{func(t *api.Table) { t.Entries[63] = 0x100 }, api.ErrRange},
		{func(t *api.Table) { t.Entries[63] = 0x10000 }, api.ErrForm},
	} {
		b := bare(3)
		b.Leaves[1] = 7
		b.Entries[9] = pack("p5w")
		c.change(&b)
		if err := table.Check(b); err != c.err {
			t.Error(i, err, c.err)
		}
		if c.err == api.OK {
			continue
		}
		for _, n := range []int{0, 9, 99, -1} {
			e := c.err.Error()
			expect(t, [][2]string{
				{say(table.Get(b, n)), noEntry + " " + e},
				{say(table.Lacks(b, n)), "false " + e},
				{say(table.Put(b, n, api.Entry{Kind: 9})), none + " " + e},
				{say(table.SetLeaf(b, n, n)), none + " " + e},
				{say(table.Clear(b, n)), none + " 0 " + e},
				{say(table.Trim(b)), none + " [] " + e},
				{say(table.Frames(b)), "[] " + e},
				{say(table.Pages(b, n)), "[] " + e},
				{say(table.Counts(b)), "0 0 " + e},
			})
		}
	}
}

// P23.2, P23.4, P23.5

func TestGetPut(t *testing.T) {
	for seed := range uint64(60) {
		b := some(seed)
		before := say(b)
		for page := range 64 {
			lacks := b.Leaves[page/8] < 0
			e, _ := entry.Unpack(b.Entries[page])
			expect(t, [][2]string{{say(table.Get(b, page)), say(e, "ok")}, {say(table.Lacks(b, page)), say(lacks, "ok")}})
			for _, s := range append(texts, "-") {
				want := none + " state"
				if !lacks || s == "-" {
					c := clone(b)
					c.Entries[page] = pack(s)
					want = say(c, "ok")
				}
				c, err := table.Put(b, page, parse(s))
				expect(t, [][2]string{{say(c, err), want}})
				if err == api.OK {
					expect(t, [][2]string{{say(table.Get(c, page)), say(parse(s), "ok")}, {say(table.Check(c)), "ok"}})
					scribble(t, b, before, c)
				}
			}
			for _, e := range []api.Entry{{Kind: 3}, {Kind: 1, Number: 256, Cow: true}, {Kind: 1}, {Number: 1}} {
				expect(t, [][2]string{{say(table.Put(b, page, e)), say(none, entry.Check(e))}})
			}
		}
		for _, page := range append([]int{64, -1}, far...) {
			expect(t, [][2]string{
				{say(table.Get(b, page)), noEntry + " range"},
				{say(table.Lacks(b, page)), "false range"},
				{say(table.Put(b, page, api.Entry{Kind: 9})), none + " range"},
				{say(table.Clear(b, page)), none + " 0 range"},
			})
		}
	}
}

func TestSetLeaf(t *testing.T) {
	for seed := range uint64(60) {
		b := some(seed)
		before := say(b)
		for leaf := range 8 {
			for frame := range 256 {
				want := ""
				switch {
				case b.Root < 0:
					want = none + " state"
				case b.Leaves[leaf] >= 0 || frame == b.Root || slices.Contains(b.Leaves, frame):
					want = none + " exists"
				default:
					c := clone(b)
					c.Leaves[leaf] = frame
					want = say(c, "ok")
				}
				c, err := table.SetLeaf(b, leaf, frame)
				expect(t, [][2]string{{say(c, err), want}})
				if err == api.OK {
					expect(t, [][2]string{{say(table.Check(c)), "ok"}})
					scribble(t, b, before, c)
				}
			}
		}
		for _, n := range append([]int{-1}, far...) {
			expect(t, [][2]string{{say(table.SetLeaf(b, n, 5)), none + " range"}, {say(table.SetLeaf(b, 8, 5)), none + " range"}, {say(table.SetLeaf(b, 0, n)), none + " range"}})
		}
	}
}

// P23.3, P23.5, P23.6

func TestClearTrim(t *testing.T) {
	for seed := range uint64(100) {
		b := some(seed)
		before := say(b)
		for page := range 64 {
			if b.Entries[page] == 0 {
				expect(t, [][2]string{{say(table.Clear(b, page)), none + " 0 missing"}})
				continue
			}
			c, frame := clone(b), -1
			c.Entries[page] = 0
			if empty(c, page/8) {
				frame, c.Leaves[page/8] = c.Leaves[page/8], -1
			}
			got, f, err := table.Clear(b, page)
			expect(t, [][2]string{{say(got, f, err), say(c, frame, "ok")}, {say(table.Check(got)), "ok"}})
			scribble(t, b, before, got)
		}
		c := clone(b)
		var frames []int
		for leaf := range 8 {
			if c.Leaves[leaf] >= 0 && empty(c, leaf) {
				frames = append(frames, c.Leaves[leaf])
				c.Leaves[leaf] = -1
			}
		}
		got, l, err := table.Trim(b)
		expect(t, [][2]string{{say(got, l, err), say(c, frames, "ok")}, {say(table.Trim(got)), say(c, "[] ok")}})
		scribble(t, b, before, got)
	}
}

// P23.3, P23.7

func TestLooks(t *testing.T) {
	for seed := range uint64(100) {
		b := some(seed)
		pages := make([][]int, 3)
		for page, w := range b.Entries {
			pages[w%4] = append(pages[w%4], page)
		}
		frames := slices.DeleteFunc(append(slices.Clone(b.Leaves), b.Root), func(f int) bool { return f < 0 })
		expect(t, [][2]string{{say(table.Frames(b)), say(frames, "ok")}, {say(table.Counts(b)), say(len(pages[1]), len(pages[2]), "ok")}})
		for kind := range 3 {
			expect(t, [][2]string{{say(table.Pages(b, kind)), say(pages[kind], "ok")}})
		}
		for _, kind := range append([]int{3, -1}, far...) {
			expect(t, [][2]string{{say(table.Pages(b, kind)), "[] range"}})
		}
	}
}

// The examples of the chapter.

func TestExamples(t *testing.T) {
	b := bare(3)
	expect(t, [][2]string{{say(table.Lacks(b, 9)), "true ok"}, {say(table.Put(b, 9, parse("p5w"))), none + " state"}, {say(table.Put(b, 9, api.Entry{})), say(b, "ok")}})
	leaf, _ := table.SetLeaf(b, 1, 7)
	one, _ := table.Put(leaf, 9, parse("p5w"))
	two, _ := table.Put(one, 10, parse("s2"))
	expect(t, [][2]string{
		{say(table.Frames(two)), "[7 3] ok"},
		{say(table.Counts(two)), "1 1 ok"},
		{say(table.SetLeaf(two, 1, 8)), none + " exists"},
		{say(table.SetLeaf(two, 2, 7)), none + " exists"},
		{say(table.SetLeaf(two, 2, 3)), none + " exists"},
		{say(table.SetLeaf(bare(-1), 0, 1)), none + " state"},
		{say(table.Clear(two, 11)), none + " 0 missing"},
		{say(table.Pages(two, 1)), "[9] ok"},
		{say(table.Pages(two, 3)), "[] range"},
	})
	c, frame, _ := table.Clear(two, 9)
	expect(t, [][2]string{{say(frame), "-1"}, {say(table.Clear(c, 10)), say(b, 7, "ok")}})
	more, _ := table.SetLeaf(two, 0, 9)
	expect(t, [][2]string{{say(table.Trim(more)), say(two, "[9] ok")}})
}
