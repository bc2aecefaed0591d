package cow_test

import (
	"fmt"
	"math"
	"math/rand/v2"
	"slices"
	"strings"
	"testing"

	"headgate/api"
	"headgate/cow"
	"headgate/entry"
)

// say writes values with blanks between them, errors by their names.
func say(l ...any) string { return strings.TrimSuffix(fmt.Sprintln(l...), "\n") }

// expect compares what calls gave with what they should give.
func expect(t *testing.T, l [][2]string) {
	t.Helper()
	for i, c := range l {
		if c[0] != c[1] {
			t.Fatalf("case %d: %.500q, not %.500q", i, c[0], c[1])
		}
	}
}

// of reads tables as the chapter writes them, in parentheses; show writes them.
func of(s string) [][]uint64 {
	var t [][]uint64
	for _, part := range strings.SplitAfter(s, ")") {
		if part == "" {
			continue
		}
		var table []uint64
		for _, w := range strings.Fields(strings.Trim(part, "()")) {
			e, err := entry.Parse(w)
			if err != api.OK {
				panic(w)
			}
			word, _ := entry.Pack(e)
			table = append(table, word)
		}
		t = append(t, table)
	}
	return t
}

func show(t [][]uint64) (s string) {
	for _, table := range t {
		var words []string
		for _, w := range table {
			e, _ := entry.Unpack(w)
			text, _ := entry.Text(e)
			words = append(words, text)
		}
		s += "(" + strings.Join(words, " ") + ")"
	}
	return s
}

func one(t [][]uint64, err api.Errno) string        { return say(show(t), err) }
func two(t [][]uint64, n int, err api.Errno) string { return say(show(t), n, err) }
func drop(t [][]uint64, frame, slot int, err api.Errno) string {
	return say(show(t), frame, slot, err)
}

// unpack returns the entries of tables.
func unpack(t [][]uint64) [][]api.Entry {
	l := make([][]api.Entry, len(t))
	for i, table := range t {
		for _, w := range table {
			e, _ := entry.Unpack(w)
			l[i] = append(l[i], e)
		}
	}
	return l
}

// pack returns the words of entries.
func pack(t [][]api.Entry) [][]uint64 {
	l := make([][]uint64, len(t))
	for i, table := range t {
		for _, e := range table {
			w, err := entry.Pack(e)
			if err != api.OK {
				panic(err)
			}
			l[i] = append(l[i], w)
		}
	}
	return l
}

// some returns a sharing, always the same one for a number.
func some(seed uint64) [][]uint64 {
	r := rand.New(rand.NewPCG(seed, 26))
	t := make([][]api.Entry, r.IntN(9))
	used := map[int]int{}
	for i := range t {
		for range r.IntN(6) {
			e := api.Entry{}
			switch n := []int{0, 1, 2, 9, 255}[r.IntN(5)]; r.IntN(3) {
			case 1:
				e = api.Entry{Kind: 1, Number: n, Cow: true, Referenced: r.IntN(2) == 0}
				used[n]++
			case 2:
				e = api.Entry{Kind: 2, Number: n}
			}
			t[i] = append(t[i], e)
		}
	}
	for i := range t {
		for k, e := range t[i] {
			if e.Kind == 1 && used[e.Number] == 1 && r.IntN(2) == 0 {
				t[i][k].Writable, t[i][k].Cow = true, false
			}
		}
	}
	return pack(t)
}

// scribble writes over a result, and checks that the argument does not notice.
func scribble(t *testing.T, arg [][]uint64, before string, result [][]uint64) {
	t.Helper()
	for i := range result {
		for k := range result[i] {
			result[i][k] = 777
		}
		result[i] = append(result[i], 778)
	}
	if say(arg) != before {
		t.Fatal("an argument was changed")
	}
}

// others returns the places of all entries like e, but for one.
func others(t [][]api.Entry, e api.Entry, table, page int) (l []api.Place) {
	for i := range t {
		for k, f := range t[i] {
			if f.Kind == e.Kind && f.Number == e.Number && e.Kind != 0 && (i != table || k != page) {
				l = append(l, api.Place{Proc: i, Page: k})
			}
		}
	}
	return l
}

var far = []int{math.MinInt, -1 << 32, -1, 256, 257, 1 << 32, 1<<32 + 1, math.MaxInt}

// P26.1

func TestCheck(t *testing.T) {
	long := make([]uint64, 65)
	nine := make([][]uint64, 9)
	for _, c := range []struct {
		t    [][]uint64
		want string
	}{
		{nil, "ok 0"}, {nine[:8], "ok 0"}, {nine, "full 0"}, {append(nine[:8:8], long), "full 0"}, {[][]uint64{long[:64]}, "ok 0"},
		{[][]uint64{{}, long}, "long 1"}, {[][]uint64{{3}, long}, "kind 0"}, {[][]uint64{long, {3}}, "long 0"}, {[][]uint64{{0, 0x711, 3}}, "form 0"}, {[][]uint64{{0}, {0, 0x100}}, "range 1"}, {[][]uint64{{0}, {0}, {0, 0x10000}}, "form 2"},
		{append([][]uint64{append(long[:64:64], 3)}, nil), "long 0"},
		{of("(p1w)(p1c)"), "state 0"}, {of("(p1c)(p2c p1w)"), "state 1"}, {of("(p1w p1w)"), "state 0"}, {of("(p1c)(p1c)(p2w)(- p2w)"), "state 2"}, {of("(p1w)(s1)"), "ok 0"}, {append(of("(p1w)(p1c)"), []uint64{3}), "kind 2"},
		{of("(p1wr p2w)(p3w)"), "ok 0"},
	} {
		expect(t, [][2]string{{say(cow.Check(c.t)), c.want}})
		if e := strings.Fields(c.want)[0]; e != "ok" {
			for _, n := range []int{0, -1, 999} {
				expect(t, [][2]string{
					{say(cow.Counts(c.t)), "[] [] " + e},
					{say(cow.Decide(c.t, n, n)), "0 " + e},
					{say(cow.Fork(c.t, n)), "[] " + e},
					{say(cow.Take(c.t, n, n)), "[] " + e},
					{say(cow.Break(c.t, n, n, n)), "[] 0 " + e},
					{say(cow.Drop(c.t, n, n)), "[] 0 0 " + e},
					{say(cow.Out(c.t, n, n)), "[] 0 " + e},
					{say(cow.Sharers(c.t, n, n)), "[] " + e},
				})
			}
		}
	}
	tables := of("(p1c p1c s1)(-)")
	for _, n := range append([]int{2, 3}, far...) {
		page := n
		if n == 2 {
			page = 1
		}
		for _, p := range [][2]int{{n, 0}, {1, page}, {n, n}} {
			expect(t, [][2]string{
				{say(cow.Decide(tables, p[0], p[1])), "0 range"},
				{say(cow.Take(tables, p[0], p[1])), "[] range"},
				{say(cow.Break(tables, p[0], p[1], 9)), "[] 0 range"},
				{say(cow.Drop(tables, p[0], p[1])), "[] 0 0 range"},
				{say(cow.Sharers(tables, p[0], p[1])), "[] range"},
			})
		}
		expect(t, [][2]string{{say(cow.Fork(tables, n)), "[] range"}})
	}
	for _, n := range far {
		expect(t, [][2]string{
			{say(cow.Break(tables, 0, 0, n)), "[] 0 range"},
			{say(cow.Break(tables, 0, 2, n)), "[] 0 state"},
			{say(cow.Out(tables, n, 5)), "[] 0 range"},
			{say(cow.Out(tables, 1, n)), "[] 0 range"},
		})
	}
	expect(t, [][2]string{{say(cow.Fork(nine[:8], 0)), "[] full"}, {say(cow.Fork(nine[:8], 8)), "[] range"}, {say(cow.Decide(nil, 0, 0)), "0 range"}})
}

// P26.2, P26.6

func TestCounts(t *testing.T) {
	for seed := range uint64(200) {
		s := some(seed)
		maps, refs, all := make([]int, 256), make([]int, 256), 0
		for _, table := range unpack(s) {
			for _, e := range table {
				switch e.Kind {
				case 1:
					maps[e.Number]++
				case 2:
					refs[e.Number]++
				}
			}
		}
		for i := range maps {
			all += maps[i] + refs[i]
		}
		expect(t, [][2]string{{say(cow.Counts(s)), say(maps, refs, "ok")}})
		n := 0
		for _, table := range s {
			for _, w := range table {
				if w != 0 {
					n++
				}
			}
		}
		if n != all {
			t.Fatal(n, all)
		}
	}
}

// P26.2, P26.4, P26.5, P26.6

func TestPages(t *testing.T) {
	for seed := range uint64(200) {
		s := some(seed)
		before := say(s)
		for i, table := range unpack(s) {
			for k, e := range table {
				with := func(e api.Entry) string {
					c := unpack(s)
					c[i][k] = e
					return show(pack(c))
				}
				sharers := others(unpack(s), e, i, k)
				needs := 5
				switch {
				case e.Kind == 0:
					needs = 1
				case e.Writable:
					needs = 2
				case e.Cow && len(sharers) == 0:
					needs = 3
				case e.Cow:
					needs = 4
				}
				take, gone := " state", [2]int{-1, -1}
				if needs == 3 {
					take = with(api.Entry{Kind: 1, Number: e.Number, Writable: true, Referenced: e.Referenced}) + " ok"
				}
				if e.Kind > 0 && len(sharers) == 0 {
					gone[e.Kind-1] = e.Number
				}
				expect(t, [][2]string{
					{say(cow.Decide(s, i, k)), say(needs, "ok")},
					{say(cow.Sharers(s, i, k)), say(sharers, "ok")},
					{one(cow.Take(s, i, k)), take},
					{drop(cow.Drop(s, i, k)), say(with(api.Entry{}), gone[0], gone[1], "ok")},
				})
				for _, frame := range []int{0, 1, 7, 9, 255} {
					want := " 0 state"
					if needs == 4 {
						want = with(api.Entry{Kind: 1, Number: frame, Writable: true}) + say("", e.Number, "ok")
						if len(others(unpack(s), api.Entry{Kind: 1, Number: frame}, -1, -1)) > 0 {
							want = " 0 exists"
						}
					}
					c, old, err := cow.Break(s, i, k, frame)
					expect(t, [][2]string{{two(c, old, err), want}})
					valid(t, s, before, c)
				}
				c, _ := cow.Take(s, i, k)
				d, _, _, _ := cow.Drop(s, i, k)
				valid(t, s, before, c)
				valid(t, s, before, d)
			}
		}
	}
}

// valid checks that a result is valid, and shares no memory with an argument.
func valid(t *testing.T, arg [][]uint64, before string, result [][]uint64) {
	t.Helper()
	if err, _ := cow.Check(result); err != api.OK {
		t.Fatal(result, err)
	}
	scribble(t, arg, before, result)
}

// P26.3, P26.7, P26.8

func TestFork(t *testing.T) {
	for seed := range uint64(200) {
		s := some(seed)
		before := say(s)
		for i := range s {
			if len(s) == 8 {
				expect(t, [][2]string{{one(cow.Fork(s, i)), " full"}})
				continue
			}
			want := unpack(s)
			var child []api.Entry
			for k, e := range want[i] {
				if e.Kind == 1 {
					e.Writable, e.Cow = false, true
				}
				want[i][k] = e
				e.Referenced = false
				child = append(child, e)
			}
			c, err := cow.Fork(s, i)
			expect(t, [][2]string{{one(c, err), show(pack(append(want, child))) + " ok"}})
			for k, e := range child {
				if e.Kind != 1 {
					continue
				}
				for _, table := range []int{i, len(s)} {
					broken, old, err := cow.Break(c, table, k, 100)
					other := unpack(broken)[i+len(s)-table][k]
					if old != e.Number || err != api.OK || other.Number != e.Number {
						t.Fatal(c, table, k, broken, err)
					}
				}
				alone(t, c, i, k)
			}
			valid(t, s, before, c)
		}
	}
}

// alone lets all sharers of an entry but this one break or drop it.
func alone(t *testing.T, s [][]uint64, table, page int) {
	t.Helper()
	sharers, _ := cow.Sharers(s, table, page)
	for n, p := range sharers {
		if n%2 == 0 {
			s, _, _ = cow.Break(s, p.Proc, p.Page, 110+n)
		} else {
			s, _, _, _ = cow.Drop(s, p.Proc, p.Page)
		}
	}
	expect(t, [][2]string{{say(cow.Decide(s, table, page)), "3 ok"}})
}

// P26.5, P26.9

func TestOut(t *testing.T) {
	for seed := range uint64(200) {
		s := some(seed)
		before := say(s)
		for _, frame := range []int{0, 1, 2, 9, 77, 255} {
			for _, slot := range []int{0, 1, 9, 77, 255} {
				n := len(others(unpack(s), api.Entry{Kind: 1, Number: frame}, -1, -1))
				want := unpack(s)
				for i := range want {
					for k, e := range want[i] {
						if e.Kind == 1 && e.Number == frame {
							want[i][k] = api.Entry{Kind: 2, Number: slot}
						}
					}
				}
				text := say(show(pack(want)), n, "ok")
				switch {
				case n == 0:
					text = " 0 state"
				case len(others(unpack(s), api.Entry{Kind: 2, Number: slot}, -1, -1)) > 0:
					text = " 0 exists"
				}
				c, m, err := cow.Out(s, frame, slot)
				expect(t, [][2]string{{two(c, m, err), text}})
				for i := range c {
					for k := range c[i] {
						was, _ := cow.Sharers(s, i, k)
						is, _ := cow.Sharers(c, i, k)
						if !slices.Equal(was, is) {
							t.Fatal(s, frame, slot, c)
						}
					}
				}
				valid(t, s, before, c)
			}
		}
	}
}

// The examples of the chapter.

func TestExamples(t *testing.T) {
	maps, refs, _ := cow.Counts(of("(p2c s3)(p2c s3)"))
	sum := 0
	for i := range maps {
		sum += maps[i] + refs[i]
	}
	four := of("(- p1w p2c s3)(p2c)")
	expect(t, [][2]string{
		{say(cow.Decide(four, 0, 0)), "1 ok"},
		{say(cow.Decide(four, 0, 1)), "2 ok"},
		{say(cow.Decide(four, 0, 2)), "4 ok"},
		{say(cow.Decide(four, 0, 3)), "5 ok"},
		{say(cow.Decide(of("(p2c)(-)"), 0, 0)), "3 ok"},
		{say(maps[2], refs[3], sum), "2 2 4"},
		{one(cow.Fork(of("(p1w - s3)"), 0)), "(p1c - s3)(p1c - s3) ok"},
		{one(cow.Fork(of("(p2cr)"), 0)), "(p2cr)(p2c) ok"},
		{two(cow.Break(of("(p1c)(p1c)"), 1, 0, 7)), "(p1c)(p7w) 1 ok"},
		{two(cow.Break(of("(p1c)(p1c)"), 1, 0, 1)), " 0 exists"},
		{two(cow.Break(of("(p1c)"), 0, 0, 7)), " 0 state"},
		{one(cow.Take(of("(p1c)"), 0, 0)), "(p1w) ok"},
		{one(cow.Take(of("(p1c)(p1c)"), 0, 0)), " state"},
		{drop(cow.Drop(of("(p1c)(p1c)"), 0, 0)), "(-)(p1c) -1 -1 ok"},
		{drop(cow.Drop(of("(p1c)"), 0, 0)), "(-) 1 -1 ok"},
		{drop(cow.Drop(of("(s3)"), 0, 0)), "(-) -1 3 ok"},
		{two(cow.Out(of("(p1c)(p1c p2w)"), 1, 5)), "(s5)(s5 p2w) 2 ok"},
		{two(cow.Out(of("(p1c)"), 2, 5)), " 0 state"},
		{two(cow.Out(of("(p1c s5)"), 1, 5)), " 0 exists"},
		{say(cow.Check(of("(p1w)(p1c)"))), "state 0"},
		{say(cow.Check(of("(p1w p1w)"))), "state 0"},
		{say(cow.Sharers(of("(p1c)(p1c p1c)"), 1, 0)), "[{0 0} {1 1}] ok"},
	})
}
