package flat_test

import (
	"fmt"
	"math"
	"math/rand/v2"
	"slices"
	"strings"
	"testing"

	"headgate/api"
	"headgate/flat"
)

// say writes values with blanks between them, errors by their names.
func say(l ...any) string { return strings.TrimSuffix(fmt.Sprintln(l...), "\n") }

// expect compares what calls gave with what they should give.
func expect(t *testing.T, l [][2]string) {
	t.Helper()
	for i, c := range l {
		if c[0] != c[1] {
			t.Fatalf("case %d: %.700q, not %.700q", i, c[0], c[1])
		}
	}
}

// naive is a memory as arrays: nil for a process that is dead, nil for a page that is not mapped.
type naive [9]*[64]*[8]uint64

// flat returns a naive memory as the package has it.
func (n *naive) flat() api.Flat {
	m := api.Flat{Alive: make([]bool, 8), Maps: make([]uint64, 8)}
	for proc := 1; proc <= 8; proc++ {
		if n[proc] == nil {
			continue
		}
		m.Alive[proc-1] = true
		for page, words := range n[proc] {
			if words == nil {
				continue
			}
			m.Maps[proc-1] += 1 << page
			for w, v := range words {
				if v != 0 {
					m.Cells = append(m.Cells, api.Cell{Place: api.Place{Proc: proc, Page: page}, Word: w, Value: v})
				}
			}
		}
	}
	return m
}

// page returns the words of a page, or the error that the page has.
func (n *naive) page(proc, page, word int) (*[8]uint64, api.Errno) {
	switch {
	case proc < 1 || proc > 8:
		return nil, api.ErrRange
	case n[proc] == nil:
		return nil, api.ErrDead
	case page < 0 || page > 63 || word < 0 || word > 7:
		return nil, api.ErrRange
	case n[proc][page] == nil:
		return nil, api.ErrSegv
	}
	return n[proc][page], api.OK
}

// mapped changes a range of pages, or returns the error that it has.
func (n *naive) mapped(proc, from, to int, on bool) api.Errno {
	switch {
	case proc < 1 || proc > 8:
		return api.ErrRange
	case n[proc] == nil:
		return api.ErrDead
	case from < 0 || to < from || to > 63:
		return api.ErrRange
	}
	for _, p := range n[proc][from : to+1] {
		if on && p != nil {
			return api.ErrExists
		}
		if !on && p == nil {
			return api.ErrMissing
		}
	}
	for i := from; i <= to; i++ {
		n[proc][i] = nil
		if on {
			n[proc][i] = new([8]uint64)
		}
	}
	return api.OK
}

// fork copies a process, or returns the error that there is.
func (n *naive) fork(proc, child int) api.Errno {
	switch {
	case proc < 1 || proc > 8 || child < 1 || child > 8:
		return api.ErrRange
	case n[proc] == nil:
		return api.ErrDead
	case proc == child:
		return api.ErrRange
	case n[child] != nil:
		return api.ErrExists
	}
	n[child] = new([64]*[8]uint64)
	for i, p := range n[proc] {
		if p != nil {
			c := *p
			n[child][i] = &c
		}
	}
	return api.OK
}

var none = say(api.Flat{})

var far = []int{math.MinInt, -1 << 32, -1, 64, 65, 1 << 32, 1<<32 + 1, math.MaxInt}

// number returns mostly a number from low to high, sometimes one that is far away.
func number(r *rand.Rand, low, high int) int {
	if r.IntN(30) == 0 {
		return far[r.IntN(len(far))]
	}
	return low + r.IntN(high-low+1)
}

// scribble writes over a result, and checks that the argument does not notice.
func scribble(t *testing.T, arg api.Flat, before string, result api.Flat) {
	t.Helper()
	for i := range result.Alive {
		result.Alive[i] = !result.Alive[i]
	}
	for i := range result.Maps {
		result.Maps[i] = 777
	}
	for i := range result.Cells {
		result.Cells[i].Value = 777
	}
	if say(arg) != before {
		t.Fatal("an argument was changed")
	}
}

// step does an operation on both memories, and compares the results.
func step(t *testing.T, r *rand.Rand, n *naive, m api.Flat) api.Flat {
	t.Helper()
	proc, child := number(r, 0, 5), number(r, 0, 5)
	from := number(r, 0, 9)
	to := min(from, math.MaxInt-9) + r.IntN(5) - r.IntN(2)
	page, word, value := number(r, 0, 12), number(r, 0, 7), r.Uint64N(4)
	var next api.Flat
	var err, want api.Errno
	switch r.IntN(9) {
	case 0:
		next, err = flat.Spawn(m, proc)
		switch {
		case proc < 1 || proc > 8:
			want = api.ErrRange
		case n[proc] != nil:
			want = api.ErrExists
		default:
			n[proc] = new([64]*[8]uint64)
		}
	case 1:
		if r.IntN(3) > 0 {
			return m
		}
		next, err = flat.Exit(m, proc)
		switch {
		case proc < 1 || proc > 8:
			want = api.ErrRange
		case n[proc] == nil:
			want = api.ErrDead
		default:
			n[proc] = nil
		}
	case 2, 3:
		next, err = flat.Map(m, proc, from, to)
		want = n.mapped(proc, from, to, true)
	case 4:
		next, err = flat.Unmap(m, proc, from, to)
		want = n.mapped(proc, from, to, false)
	case 5:
		next, err = flat.Fork(m, proc, child)
		want = n.fork(proc, child)
	default:
		next, err = flat.Write(m, proc, page, word, value)
		p, bad := n.page(proc, page, word)
		if want = bad; want == api.OK {
			p[word] = value
		}
	}
	if err != want {
		t.Fatal(err, want)
	}
	if err != api.OK {
		expect(t, [][2]string{{say(next), none}})
		return m
	}
	expect(t, [][2]string{{say(next), say(n.flat())}, {say(flat.Check(next)), "ok"}})
	return next
}

// looks compares what both memories say of themselves.
func looks(t *testing.T, r *rand.Rand, n *naive, m api.Flat) {
	t.Helper()
	proc, other, page, word := number(r, 0, 6), number(r, 0, 6), number(r, 0, 12), number(r, 0, 8)
	p, err := n.page(proc, page, word)
	value := uint64(0)
	if err == api.OK {
		value = p[word]
	}
	expect(t, [][2]string{{say(flat.Read(m, proc, page, word)), say(value, err)}})
	p, err = n.page(proc, page, 0)
	c := api.Content{}
	if err == api.OK {
		c = *p
	}
	expect(t, [][2]string{{say(flat.Page(m, proc, page)), say(c, err)}})
	want := "false range"
	if proc > 0 && proc < 9 && other > 0 && other < 9 {
		want = "false dead"
		if n[proc] != nil && n[other] != nil {
			same := true
			for i := range 64 {
				a, b := n[proc][i], n[other][i]
				same = same && (a == nil) == (b == nil) && (a == nil || *a == *b)
			}
			want = say(same, "ok")
		}
	}
	expect(t, [][2]string{{say(flat.Same(m, proc, other)), want}})
}

// P29.2, P29.3, P29.4, P29.5, P29.6, P29.7, P29.8

func TestRandom(t *testing.T) {
	for seed := range uint64(40) {
		r := rand.New(rand.NewPCG(seed, 29))
		n, m := &naive{}, flat.New()
		for range 200 {
			before := say(m)
			next := step(t, r, n, m)
			if say(m) != before {
				t.Fatal("an argument was changed")
			}
			keep, _ := flat.Exit(next, 8)
			if keep.Alive == nil {
				keep = n.flat()
			}
			if before != say(next) {
				scribble(t, m, before, next)
			}
			m = keep
			for range 4 {
				looks(t, r, n, m)
			}
		}
	}
}

// P29.1

func TestNewCheck(t *testing.T) {
	expect(t, [][2]string{{say(flat.New()), say((&naive{}).flat())}})
	cell := func(proc, page, word int, value uint64) api.Cell {
		return api.Cell{Place: api.Place{Proc: proc, Page: page}, Word: word, Value: value}
	}
	good := func() api.Flat {
		m := flat.New()
		m.Alive[0], m.Alive[7], m.Maps[0], m.Maps[7] = true, true, 1<<63|12, 1
		m.Cells = []api.Cell{cell(1, 3, 7, 9), cell(1, 63, 0, 1), cell(8, 0, 0, math.MaxUint64), cell(8, 0, 1, 1)}
		return m
	}
	for i, c := range []struct {
		change func(m *api.Flat)
		err    api.Errno
	}{
		{func(m *api.Flat) {}, api.OK},
		{func(m *api.Flat) { m.Cells = nil }, api.OK},
		{func(m *api.Flat) { m.Alive = m.Alive[:7] }, api.ErrForm},
		{func(m *api.Flat) { m.Alive = append(m.Alive, true) }, api.ErrForm},
		{func(m *api.Flat) { m.Maps = m.Maps[:7] }, api.ErrForm},
		{func(m *api.Flat) { m.Maps = append(m.Maps, 0) }, api.ErrForm},
		{func(m *api.Flat) { m.Maps[3] = 1; m.Cells[0].Word = 9 }, api.ErrForm},
		{func(m *api.Flat) { m.Alive[7] = false }, api.ErrForm},
		{func(m *api.Flat) { m.Alive[3] = true }, api.OK},
		{func(m *api.Flat) { m.Cells[0].Place.Proc = 0 }, api.ErrRange},
		{func(m *api.Flat) { m.Cells[0].Place.Proc = 9 }, api.ErrRange},
		{func(m *api.Flat) { m.Cells[0].Place.Page = 64; m.Cells[0].Value = 0 }, api.ErrRange},
		{func(m *api.Flat) { m.Cells[0].Place.Page = -1 }, api.ErrRange},
		{func(m *api.Flat) { m.Cells[0].Word = 8 }, api.ErrRange},
		{func(m *api.Flat) { m.Cells[0].Word = -1 }, api.ErrRange},
		{func(m *api.Flat) { m.Cells[0].Word = math.MaxInt }, api.ErrRange},
		{func(m *api.Flat) { m.Cells[3].Place.Proc = math.MinInt }, api.ErrRange},
		{func(m *api.Flat) { m.Cells[1].Value = 0; m.Cells[2].Word = 9 }, api.ErrForm},
		{func(m *api.Flat) { m.Cells[0].Place.Page = 4; m.Cells[0].Value = 0 }, api.ErrForm},
		{func(m *api.Flat) { m.Cells[0].Place.Page = 4 }, api.ErrSegv},
		{func(m *api.Flat) { m.Cells[0].Place.Proc = 2 }, api.ErrSegv},
		{func(m *api.Flat) { m.Cells[1] = m.Cells[0]; m.Cells[2].Word = 9 }, api.ErrOrder},
		{func(m *api.Flat) { m.Cells[3].Word = 0 }, api.ErrOrder},
		{func(m *api.Flat) { m.Cells[0], m.Cells[1] = m.Cells[1], m.Cells[0] }, api.ErrOrder},
		{func(m *api.Flat) { m.Cells[0], m.Cells[3] = m.Cells[3], m.Cells[0] }, api.ErrOrder},
	} {
		m := good()
		c.change(&m)
		if err := flat.Check(m); err != c.err {
			t.Error(i, err, c.err)
		}
		if c.err == api.OK {
			continue
		}
		for _, n := range []int{1, 0, 99} {
			e := c.err.Error()
			expect(t, [][2]string{
				{say(flat.Spawn(m, n)), none + " " + e},
				{say(flat.Exit(m, n)), none + " " + e},
				{say(flat.Map(m, n, n, n)), none + " " + e},
				{say(flat.Unmap(m, n, n, n)), none + " " + e},
				{say(flat.Read(m, n, n, n)), "0 " + e},
				{say(flat.Write(m, n, n, n, 1)), none + " " + e},
				{say(flat.Fork(m, n, n)), none + " " + e},
				{say(flat.Page(m, n, n)), say(api.Content{}, e)},
				{say(flat.Same(m, n, n)), "false " + e},
			})
		}
	}
}

// P29.3, P29.4: the bounds of pages and words.

func TestBounds(t *testing.T) {
	m, _ := flat.Spawn(flat.New(), 1)
	m, _ = flat.Map(m, 1, 60, 63)
	for _, n := range append([]int{64, 8}, far...) {
		expect(t, [][2]string{{say(flat.Write(m, 1, 63, n, 1)), none + " range"}, {say(flat.Read(m, 1, 63, n)), "0 range"}})
		if n == 8 {
			continue
		}
		expect(t, [][2]string{
			{say(flat.Map(m, 1, 9, n)), none + " range"},
			{say(flat.Map(m, 1, n, 9)), none + " range"},
			{say(flat.Map(m, 1, n, n)), none + " range"},
			{say(flat.Unmap(m, 1, 60, n)), none + " range"},
			{say(flat.Unmap(m, 1, n, 63)), none + " range"},
			{say(flat.Write(m, 1, n, 0, 1)), none + " range"},
			{say(flat.Read(m, 1, n, 0)), "0 range"},
			{say(flat.Page(m, 1, n)), say(api.Content{}, "range")},
		})
	}
	expect(t, [][2]string{{say(flat.Map(m, 2, 9, 64)), none + " dead"}, {say(flat.Map(m, 9, 9, 64)), none + " range"}})
}

// P29.9

func TestTheoremOrder(t *testing.T) {
	type op func(m api.Flat) (api.Flat, api.Errno)
	for seed := range uint64(200) {
		r := rand.New(rand.NewPCG(seed, 31))
		start := flat.New()
		start, _ = flat.Spawn(start, 1)
		start, _ = flat.Spawn(start, 2)
		var lists [2][]op
		for i := range lists {
			proc := i + 1
			for range 12 {
				a, b, v := r.IntN(6), r.IntN(6), r.Uint64N(3)
				lists[i] = append(lists[i], []op{
					func(m api.Flat) (api.Flat, api.Errno) { return flat.Map(m, proc, a, a+b) },
					func(m api.Flat) (api.Flat, api.Errno) { return flat.Unmap(m, proc, a, a+b/3) },
					func(m api.Flat) (api.Flat, api.Errno) { return flat.Write(m, proc, a, b, v) },
					func(m api.Flat) (api.Flat, api.Errno) { return flat.Write(m, proc, b, a, v+1) },
				}[r.IntN(4)])
			}
		}
		run := func(l []op) string {
			m := start
			for _, f := range l {
				if next, err := f(m); err == api.OK {
					m = next
				}
			}
			return say(m)
		}
		var mixed []op
		x, y := lists[0], lists[1]
		for len(x)+len(y) > 0 {
			if len(y) == 0 || len(x) > 0 && r.IntN(2) == 0 {
				mixed, x = append(mixed, x[0]), x[1:]
			} else {
				mixed, y = append(mixed, y[0]), y[1:]
			}
		}
		one, two := run(slices.Concat(lists[0], lists[1])), run(slices.Concat(lists[1], lists[0]))
		expect(t, [][2]string{{one, two}, {one, run(mixed)}})
	}
}

// The examples of the chapter.

func TestExamples(t *testing.T) {
	m, _ := flat.Spawn(flat.New(), 1)
	m, _ = flat.Map(m, 1, 2, 3)
	expect(t, [][2]string{{say(m.Alive[0], m.Maps[0]), "true 12"}, {say(flat.Read(m, 1, 2, 0)), "0 ok"}})
	m, _ = flat.Write(m, 1, 3, 7, 9)
	expect(t, [][2]string{{say(m.Cells), "[{{1 3} 7 9}]"}})
	f, _ := flat.Fork(m, 1, 2)
	expect(t, [][2]string{{say(f.Cells), "[{{1 3} 7 9} {{2 3} 7 9}]"}, {say(flat.Same(f, 1, 2)), "true ok"}})
	f, _ = flat.Write(f, 2, 3, 7, 8)
	expect(t, [][2]string{{say(f.Cells), "[{{1 3} 7 9} {{2 3} 7 8}]"}, {say(flat.Read(f, 1, 3, 7)), "9 ok"}, {say(flat.Same(f, 1, 2)), "false ok"}})
	g, _ := flat.Unmap(f, 1, 3, 3)
	g, _ = flat.Map(g, 1, 3, 3)
	zero, _ := flat.Write(m, 1, 3, 7, 0)
	expect(t, [][2]string{
		{say(flat.Read(g, 1, 3, 7)), "0 ok"},
		{say(flat.Read(m, 1, 4, 0)), "0 segv"},
		{say(flat.Read(m, 3, 0, 0)), "0 dead"},
		{say(flat.Map(m, 1, 3, 4)), none + " exists"},
		{say(flat.Unmap(m, 1, 1, 2)), none + " missing"},
		{say(flat.Map(m, 1, 4, 3)), none + " range"},
		{say(len(zero.Cells)), "0"},
		{say(flat.Spawn(m, 1)), none + " exists"},
		{say(flat.Fork(m, 1, 1)), none + " range"},
		{say(flat.Fork(f, 1, 2)), none + " exists"},
		{say(flat.Read(m, 9, 0, 0)), "0 range"},
		{say(flat.Fork(m, 3, 3)), none + " dead"},
	})
}
