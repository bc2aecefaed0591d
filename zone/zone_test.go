package zone_test

import (
	"fmt"
	"math"
	"strings"
	"testing"

	"headgate/api"
	"headgate/zone"
)

// say writes values with blanks between them, errors by their names.
func say(l ...any) string { return strings.TrimSuffix(fmt.Sprintln(l...), "\n") }

// expect compares what calls gave with what they should give.
func expect(t *testing.T, l [][2]string) {
	t.Helper()
	for i, c := range l {
		if c[0] != c[1] {
			t.Errorf("case %d: %q, not %q", i, c[0], c[1])
		}
	}
}

func marks(min, low, high int) api.Marks { return api.Marks{Min: min, Low: low, High: high} }

// all are marks with which everything is tried.
var all = []api.Marks{marks(3, 6, 10), marks(0, 1, 2), marks(0, 5, 256), marks(254, 255, 256), marks(17, 100, 101)}

var far = []int{math.MinInt, -1 << 32, -1, 257, 1 << 32, 1<<32 + 5, math.MaxInt}

// may says in other words who may take a frame.
func may(m api.Marks, class, free int) bool {
	return free > map[int]int{1: m.Min, 2: 0, 3: m.High}[class]
}

// P10.1

func TestCheck(t *testing.T) {
	for _, c := range []struct {
		m      api.Marks
		frames int
		err    api.Errno
	}{
		{marks(3, 6, 10), 10, api.OK}, {marks(3, 6, 10), 9, api.ErrRange}, {marks(3, 6, 10), 256, api.OK}, {marks(3, 6, 10), 257, api.ErrRange}, {marks(3, 6, 10), 0, api.ErrRange}, {marks(3, 6, 10), -1, api.ErrRange},
		{marks(3, 3, 10), 20, api.ErrOrder}, {marks(3, 10, 10), 20, api.ErrOrder}, {marks(4, 3, 10), 20, api.ErrOrder}, {marks(3, 11, 10), 20, api.ErrOrder}, {marks(3, 3, 21), 20, api.ErrRange}, {marks(-1, 3, 10), 20, api.ErrRange}, {marks(-1, -1, -1), 20, api.ErrRange}, {marks(0, 1, 2), 2, api.OK}, {marks(0, 1, 2), 1, api.ErrRange}, {marks(0, 0, 0), 1, api.ErrOrder}, {marks(5, 4, 3), 20, api.ErrOrder},
		{marks(0, math.MinInt, 3), 20, api.ErrOrder}, {marks(0, math.MaxInt, 3), 20, api.ErrOrder}, {marks(0, 1, math.MaxInt), 20, api.ErrRange}, {marks(math.MinInt, 1, 2), 20, api.ErrRange}, {marks(math.MaxInt, 1, 2), 20, api.ErrOrder}, {marks(0, 1, math.MinInt), 20, api.ErrOrder}, {marks(0, 255, 256), 256, api.OK}, {marks(0, 255, 257), math.MaxInt, api.ErrRange},
	} {
		if err := zone.Check(c.m, c.frames); err != c.err {
			t.Error(c, err)
		}
	}
}

func TestErrorsFirst(t *testing.T) {
	for _, c := range []struct {
		m   api.Marks
		err string
	}{{marks(-1, 3, 9), "range"}, {marks(0, 3, 257), "range"}, {marks(3, 3, 9), "order"}, {marks(3, 9, 9), "order"}} {
		for _, n := range []int{5, -1, 300} {
			refused(t, c.m, n, n, n, c.err)
		}
	}
	m := marks(3, 6, 10)
	for _, class := range append([]int{0, 4}, far...) {
		for _, n := range []int{5, -1, 300} {
			expect(t, [][2]string{
				{say(zone.May(m, class, n)), "false kind"},
				{say(zone.Take(m, class, n, n)), "0 0 kind"},
				{say(zone.Needs(m, class, n, n)), "0 kind"},
			})
		}
	}
	for _, n := range far {
		for class := 1; class <= 3; class++ {
			refused(t, m, class, n, 5, "range")
			expect(t, [][2]string{
				{say(zone.Take(m, class, 5, n)), "0 0 range"},
				{say(zone.Needs(m, class, 5, n)), "0 range"},
				{say(zone.Needs(m, class, n, 0)), "0 range"},
			})
		}
	}
}

// refused checks that all functions return an error.
func refused(t *testing.T, m api.Marks, class, free, n int, err string) {
	t.Helper()
	expect(t, [][2]string{
		{say(zone.May(m, class, free)), "false " + err},
		{say(zone.Take(m, class, free, n)), "0 0 " + err},
		{say(zone.Needs(m, class, free, n)), "0 " + err},
		{say(zone.Level(m, free)), "0 " + err},
		{say(zone.Awake(m, free, true)), "false " + err},
	})
}

// P10.2, P10.5, P10.6, P10.7

func TestMayTakeNeeds(t *testing.T) {
	for _, m := range all {
		for free := range 257 {
			for class := 1; class <= 3; class++ {
				is, err := zone.May(m, class, free)
				if is != may(m, class, free) || err != api.OK {
					t.Fatal(m, class, free, is, err)
				}
				for _, n := range []int{0, 1, 2, 5, 100, 255, 256} {
					got, left := 0, free
					for got < n && may(m, class, left) {
						got, left = got+1, left-1
					}
					if g, l, err := zone.Take(m, class, free, n); g != got || l != left || err != api.OK {
						t.Fatal(m, class, free, n, g, l, err)
					}
					checkNeeds(t, m, class, free, n)
				}
			}
			background, _ := zone.May(m, 3, free)
			normal, _ := zone.May(m, 1, free)
			reserve, _ := zone.May(m, 2, free)
			if background && !normal || normal && !reserve {
				t.Fatal(m, free)
			}
		}
	}
}

// checkNeeds checks Needs by counting, beyond 256 too.
func checkNeeds(t *testing.T, m api.Marks, class, free, n int) {
	t.Helper()
	want := 0
	for n > 0 && !may(m, class, free+want-(n-1)) {
		want++
	}
	needs, err := zone.Needs(m, class, free, n)
	if needs != want || err != api.OK {
		t.Fatal(m, class, free, n, needs, err, want)
	}
	if free+needs <= 256 {
		if got, _, _ := zone.Take(m, class, free+needs, n); got != n {
			t.Fatal(m, class, free, n, needs, got)
		}
		if got, _, _ := zone.Take(m, class, free+max(needs-1, 0), n); needs > 0 && got == n {
			t.Fatal(m, class, free, n, needs)
		}
	}
}

// P10.3, P10.8

func TestLevelAwake(t *testing.T) {
	for _, m := range all {
		before := 3
		for free := range 257 {
			want := 3
			switch {
			case free >= m.High:
				want = 0
			case free >= m.Low:
				want = 1
			case free > m.Min:
				want = 2
			}
			level, err := zone.Level(m, free)
			if level != want || level > before || err != api.OK {
				t.Fatal(m, free, level, err)
			}
			before = level
			for _, was := range []bool{false, true} {
				is := was
				if free < m.Low {
					is = true
				}
				if free >= m.High {
					is = false
				}
				if got, err := zone.Awake(m, free, was); got != is || err != api.OK {
					t.Fatal(m, free, was, got, err)
				}
			}
		}
	}
}

// P10.4

func TestFit(t *testing.T) {
	good := api.Config{Frames: 40, Low: 8, Slots: 8, Cap: 2, Queue: 4, Min: 3, LowMark: 6, High: 9, MapCap: 64}
	with := func(f func(c *api.Config)) api.Config {
		c := good
		f(&c)
		return c
	}
	for i, c := range []struct {
		c   api.Config
		err api.Errno
	}{
		{good, api.OK},
		{with(func(c *api.Config) { c.Frames = 257 }), api.ErrRange},
		{with(func(c *api.Config) { c.Frames = 256; c.Low = 256 }), api.OK},
		{with(func(c *api.Config) { c.Frames = 22 }), api.OK},
		{with(func(c *api.Config) { c.Frames = 21 }), api.ErrOrder},
		{with(func(c *api.Config) { c.Frames = 15; c.Low = 15 }), api.ErrRange},
		{with(func(c *api.Config) { c.Frames = 16; c.Cap, c.Queue, c.Min, c.LowMark, c.High = 1, 2, 2, 3, 4 }), api.ErrOrder},
		{with(func(c *api.Config) { c.Frames = 17; c.Cap, c.Queue, c.Min, c.LowMark, c.High = 1, 2, 2, 3, 4 }), api.OK},
		{with(func(c *api.Config) { c.Frames = math.MinInt }), api.ErrRange},
		{with(func(c *api.Config) { c.Low = 0 }), api.ErrRange},
		{with(func(c *api.Config) { c.Low = 1 }), api.OK},
		{with(func(c *api.Config) { c.Low = 40 }), api.OK},
		{with(func(c *api.Config) { c.Low = 41 }), api.ErrRange},
		{with(func(c *api.Config) { c.Slots = 0 }), api.ErrRange},
		{with(func(c *api.Config) { c.Slots = 256 }), api.OK},
		{with(func(c *api.Config) { c.Slots = 257 }), api.ErrRange},
		{with(func(c *api.Config) { c.Cap = 0 }), api.ErrRange},
		{with(func(c *api.Config) { c.Cap = 3 }), api.ErrOrder},
		{with(func(c *api.Config) { c.Cap = 4 }), api.ErrRange},
		{with(func(c *api.Config) { c.Cap = 16; c.Queue = 17; c.Min = 17; c.LowMark = 18; c.High = 19 }), api.OK},
		{with(func(c *api.Config) { c.Cap = 17; c.Queue = 18; c.Min = 18; c.LowMark = 19; c.High = 20 }), api.ErrRange},
		{with(func(c *api.Config) { c.Cap = math.MaxInt }), api.ErrRange},
		{with(func(c *api.Config) { c.Queue = 2 }), api.ErrRange},
		{with(func(c *api.Config) { c.Queue = 3 }), api.OK},
		{with(func(c *api.Config) { c.Queue = 32 }), api.OK},
		{with(func(c *api.Config) { c.Queue = 33 }), api.ErrRange},
		{with(func(c *api.Config) { c.Queue = 8; c.High = 27 }), api.OK},
		{with(func(c *api.Config) { c.Queue = 8; c.High = 28 }), api.ErrOrder},
		{with(func(c *api.Config) { c.Queue = 9; c.High = 27 }), api.ErrOrder},
		{with(func(c *api.Config) { c.Queue = 9; c.High = 26 }), api.OK},
		{with(func(c *api.Config) { c.Queue = 32; c.High = 24 }), api.OK},
		{with(func(c *api.Config) { c.Queue = 32; c.High = 25 }), api.ErrOrder},
		{with(func(c *api.Config) { c.Queue = math.MaxInt }), api.ErrRange},
		{with(func(c *api.Config) { c.MapCap = 0 }), api.ErrRange},
		{with(func(c *api.Config) { c.MapCap = 1 }), api.OK},
		{with(func(c *api.Config) { c.MapCap = 65 }), api.ErrRange},
		{with(func(c *api.Config) { c.Min = 2 }), api.ErrOrder},
		{with(func(c *api.Config) { c.Min = -1 }), api.ErrOrder},
		{with(func(c *api.Config) { c.Min = 6 }), api.ErrOrder},
		{with(func(c *api.Config) { c.Min = math.MinInt }), api.ErrOrder},
		{with(func(c *api.Config) { c.LowMark = 3 }), api.ErrOrder},
		{with(func(c *api.Config) { c.LowMark = 9 }), api.ErrOrder},
		{with(func(c *api.Config) { c.LowMark = 8; c.Min = 7 }), api.OK},
		{with(func(c *api.Config) { c.High = math.MaxInt }), api.ErrOrder},
		{with(func(c *api.Config) { c.High = 6 }), api.ErrOrder},
		{with(func(c *api.Config) { c.Min = 0; c.MapCap = 0 }), api.ErrRange},
		{api.Config{}, api.ErrRange},
	} {
		m, err := zone.Fit(c.c)
		want := api.Marks{}
		if c.err == api.OK {
			want = api.Marks{Min: c.c.Min, Low: c.c.LowMark, High: c.c.High}
		}
		if m != want || err != c.err {
			t.Error(i, c, m, err)
		}
	}
}

// The examples of the chapter.

func TestExamples(t *testing.T) {
	m := marks(3, 6, 10)
	expect(t, [][2]string{
		{say(zone.May(m, 1, 4)), "true ok"},
		{say(zone.May(m, 1, 3)), "false ok"},
		{say(zone.May(m, 2, 1)), "true ok"},
		{say(zone.May(m, 2, 0)), "false ok"},
		{say(zone.May(m, 3, 10)), "false ok"},
		{say(zone.May(m, 3, 11)), "true ok"},
		{say(zone.Take(m, 1, 6, 5)), "3 3 ok"},
		{say(zone.Take(m, 2, 2, 5)), "2 0 ok"},
		{say(zone.Take(m, 3, 12, 1)), "1 11 ok"},
		{say(zone.Needs(m, 1, 6, 5)), "2 ok"},
		{say(zone.Needs(m, 1, 20, 5)), "0 ok"},
		{say(zone.Needs(m, 2, 2, 5)), "3 ok"},
		{say(zone.Needs(m, 3, 0, 1)), "11 ok"},
		{say(zone.Needs(m, 1, 0, 0)), "0 ok"},
		{say(zone.Awake(m, 5, false)), "true ok"},
		{say(zone.Awake(m, 6, true)), "true ok"},
		{say(zone.Awake(m, 6, false)), "false ok"},
		{say(zone.Awake(m, 10, true)), "false ok"},
		{say(zone.May(m, 4, 5)), "false kind"},
		{say(zone.May(m, 1, 257)), "false range"},
		{say(zone.Check(marks(3, 3, 10), 20)), "order"},
		{say(zone.Check(m, 9)), "range"},
	})
	for free, level := range map[int]int{10: 0, 9: 1, 6: 1, 5: 2, 4: 2, 3: 3, 0: 3} {
		expect(t, [][2]string{{say(zone.Level(m, free)), say(level, "ok")}})
	}
}
