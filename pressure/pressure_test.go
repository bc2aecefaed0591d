package pressure_test

import (
	"fmt"
	"math"
	"math/rand/v2"
	"slices"
	"strings"
	"testing"

	"headgate/api"
	"headgate/pressure"
)

// say writes values with blanks between them, errors by their names.
func say(l ...any) string { return strings.TrimSuffix(fmt.Sprintln(l...), "\n") }

// expect compares what calls gave with what they should give.
func expect(t *testing.T, l [][2]string) {
	t.Helper()
	for i, c := range l {
		if c[0] != c[1] {
			t.Fatalf("case %d: %.700q, not %.700q", i, c[0], c[1])
		}
	}
}

func marks(min, low, high int) api.Marks { return api.Marks{Min: min, Low: low, High: high} }

// all are marks with which everything is tried.
var all = []api.Marks{marks(2, 5, 9), marks(0, 1, 2), marks(0, 128, 256), marks(254, 255, 256)}

var far = []int{math.MinInt, -1 << 32, -1, 257, 1 << 32, math.MaxInt}

// level says in other words what the level is.
func level(m api.Marks, free int) int {
	n := 0
	for _, below := range []bool{free < m.High, free < m.Low, free <= m.Min} {
		if below {
			n++
		}
	}
	return n
}

// runs says whether the reclaimer is awake after each number: the last one that is not between Low and High decides.
func runs(m api.Marks, history []int, awake bool) (l []bool) {
	for _, free := range history {
		if free < m.Low || free >= m.High {
			awake = free < m.Low
		}
		l = append(l, awake)
	}
	return l
}

// some returns a history, always the same one for a number.
func some(m api.Marks, seed uint64) (l []int) {
	r := rand.New(rand.NewPCG(seed, 32))
	for range []int{0, 1, 2, 10, 60, 400}[seed%6] {
		l = append(l, max(0, min(256, []int{m.Min, m.Low, m.High, r.IntN(257)}[r.IntN(4)]+r.IntN(3)-1)))
	}
	return l
}

// P32.1

func TestErrors(t *testing.T) {
	for _, c := range []struct {
		m api.Marks
		e string
	}{
		{marks(2, 2, 9), "order"}, {marks(2, 9, 9), "order"}, {marks(3, 2, 9), "order"}, {marks(2, 10, 9), "order"}, {marks(-1, 2, 9), "range"}, {marks(2, 5, 257), "range"}, {marks(-1, -1, 300), "range"}, {marks(9, 5, 257), "range"}, {marks(0, math.MinInt, 5), "order"}, {marks(0, math.MaxInt, 5), "order"}, {marks(math.MinInt, 1, 2), "range"}, {marks(math.MaxInt, 1, 2), "order"}, {marks(0, 1, math.MaxInt), "range"}, {marks(0, 1, math.MinInt), "order"},
	} {
		expect(t, [][2]string{{say(pressure.Check(c.m)), c.e}})
		for _, free := range []int{5, -1} {
			refused(t, c.m, free, make([]int, 401), c.e)
		}
	}
	for _, m := range all {
		expect(t, [][2]string{{say(pressure.Check(m)), "ok"}})
		long := append(make([]int, 400), -1)
		for _, free := range far {
			refused(t, m, free, []int{5, free}, "range")
			expect(t, [][2]string{{say(pressure.Run(m, long)), "[] long"}, {say(pressure.Spans(m, long)), "[] long"}, {say(pressure.Worst(m, long)), "0 0 long"}})
		}
	}
}

// refused checks that all functions return an error.
func refused(t *testing.T, m api.Marks, free int, history []int, e string) {
	t.Helper()
	expect(t, [][2]string{
		{say(pressure.Level(m, free)), "0 " + e},
		{say(pressure.Next(m, true, free)), "false " + e},
		{say(pressure.Missing(m, true, free)), "0 " + e},
		{say(pressure.Run(m, history)), "[] " + e},
		{say(pressure.Spans(m, history)), "[] " + e},
		{say(pressure.Worst(m, history)), "0 0 " + e},
	})
}

// P32.2, P32.6, P32.7

func TestNumbers(t *testing.T) {
	for _, m := range all {
		for free := range 257 {
			expect(t, [][2]string{{say(pressure.Level(m, free)), say(level(m, free), "ok")}})
			for _, awake := range []bool{false, true} {
				is := runs(m, []int{free}, awake)[0]
				missing := 0
				if is {
					missing = m.High - free
				}
				expect(t, [][2]string{{say(pressure.Next(m, awake, free)), say(is, "ok")}, {say(pressure.Missing(m, awake, free)), say(missing, "ok")}})
				if free > 0 {
					fewer, _ := pressure.Next(m, awake, free-1)
					lower, _ := pressure.Level(m, free-1)
					if is && !fewer || level(m, free) > lower {
						t.Fatal(m, free, awake)
					}
				}
				after, _ := pressure.Next(m, is, free+missing)
				almost, _ := pressure.Next(m, is, max(free, free+missing-1))
				if after || missing > 0 && !almost {
					t.Fatal(m, free, awake, missing)
				}
			}
		}
	}
}

// P32.2, P32.3, P32.4, P32.5, P32.8

func TestHistories(t *testing.T) {
	for _, m := range all {
		for seed := range uint64(120) {
			h := some(m, seed)
			states := runs(m, h, false)
			var spans []api.Span
			worst, at := 0, -1
			for i, free := range h {
				if states[i] && (i == 0 || !states[i-1]) {
					spans = append(spans, api.Span{From: i})
				}
				if states[i] {
					spans[len(spans)-1].To = i
				}
				if at < 0 || level(m, free) > worst {
					worst, at = level(m, free), i
				}
			}
			before := say(h)
			expect(t, [][2]string{
				{say(pressure.Run(m, h)), say(states, "ok")},
				{say(pressure.Spans(m, h)), say(spans, "ok")},
				{say(pressure.Worst(m, h)), say(worst, at, "ok")},
				{say(h), before},
			})
			for _, s := range spans {
				if h[s.From] >= m.Low || s.To+1 < len(h) && h[s.To+1] < m.High {
					t.Fatal(h, s)
				}
			}
			cut := len(h) / 2
			parts, _ := pressure.Run(m, h[:cut])
			awake := cut > 0 && parts[cut-1]
			for _, free := range h[cut:] {
				awake, _ = pressure.Next(m, awake, free)
				parts = append(parts, awake)
			}
			if !slices.Equal(parts, states) {
				t.Fatal(h, parts)
			}
		}
	}
}

// The examples of the chapter.

func TestExamples(t *testing.T) {
	m := marks(2, 5, 9)
	h := []int{9, 4, 6, 8, 9, 8, 4}
	for free, want := range map[int]string{9: "0 ok", 5: "1 ok", 3: "2 ok", 2: "3 ok", 0: "3 ok", 257: "0 range"} {
		expect(t, [][2]string{{say(pressure.Level(m, free)), want}})
	}
	expect(t, [][2]string{
		{say(pressure.Next(m, false, 5)), "false ok"},
		{say(pressure.Next(m, false, 4)), "true ok"},
		{say(pressure.Next(m, true, 8)), "true ok"},
		{say(pressure.Next(m, true, 9)), "false ok"},
		{say(pressure.Run(m, h)), "[false true true true false false true] ok"},
		{say(pressure.Spans(m, h)), "[{1 3} {6 6}] ok"},
		{say(pressure.Missing(m, true, 6)), "3 ok"},
		{say(pressure.Missing(m, false, 6)), "0 ok"},
		{say(pressure.Missing(m, false, 4)), "5 ok"},
		{say(pressure.Worst(m, []int{9, 4, 2, 0})), "3 2 ok"},
		{say(pressure.Worst(m, nil)), "0 -1 ok"},
		{say(pressure.Worst(m, []int{9, 9})), "0 0 ok"},
	})
}
