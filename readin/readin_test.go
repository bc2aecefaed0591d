package readin_test

import (
	"fmt"
	"math"
	"math/rand/v2"
	"slices"
	"strings"
	"testing"

	"headgate/api"
	"headgate/readin"
)

// say writes values with blanks between them, errors by their names.
func say(l ...any) string { return strings.TrimSuffix(fmt.Sprintln(l...), "\n") }

// expect compares what calls gave with what they should give.
func expect(t *testing.T, l [][2]string) {
	t.Helper()
	for i, c := range l {
		if c[0] != c[1] {
			t.Fatalf("case %d: %.300q, not %.300q", i, c[0], c[1])
		}
	}
}

func acc(state, frame, write int) api.ReadIn {
	return api.ReadIn{State: state, Frame: frame, Write: write}
}

// all returns valid accesses of all forms.
func all() []api.ReadIn {
	var l []api.ReadIn
	for _, f := range []int{0, 5, 255} {
		for _, w := range []int{0, 9, 255} {
			l = append(l, acc(1, -1, w), acc(4, -1, w), acc(7, -1, w))
			if f != w {
				l = append(l, acc(2, f, w), acc(4, f, w))
			}
		}
		l = append(l, acc(2, f, -1), acc(3, f, -1), acc(5, f, -1), acc(6, f, -1))
	}
	return append(l, acc(1, -1, -1), acc(7, -1, -1), acc(8, -1, -1))
}

// valid says in other words which accesses are valid.
func valid(r api.ReadIn) api.Errno {
	f, w := r.Frame, r.Write
	held, writing := f >= 0, w >= 0
	switch {
	case r.State < 1 || r.State > 8:
		return api.ErrState
	case f < -1 || f > 255 || w < -1 || w > 255:
		return api.ErrRange
	}
	ok := map[int]bool{1: !held, 2: held && f != w, 3: held && !writing, 4: writing && f != w, 5: held && !writing, 6: held && !writing, 7: !held, 8: !held && !writing}
	if !ok[r.State] {
		return api.ErrForm
	}
	return api.OK
}

// result is what an event does.
type result struct {
	r      api.ReadIn
	freed  []int
	mapped int
}

// step is the table of the chapter.
func step(r api.ReadIn, event, frame int) (result, bool) {
	some := func(l ...int) []int { return slices.DeleteFunc(l, func(f int) bool { return f < 0 }) }
	f, w := r.Frame, r.Write
	with := w >= 0
	table := map[string]result{
		"1- 1": {acc(2, frame, -1), nil, -1},
		"1- 6": {acc(7, -1, -1), nil, -1},
		"1w 2": {acc(4, -1, w), nil, -1},
		"1w 4": {acc(1, -1, -1), some(w), -1},
		"1w 6": {acc(7, -1, w), nil, -1},
		"2- 3": {acc(3, f, -1), nil, -1},
		"2- 6": {acc(7, -1, -1), some(f), -1},
		"2w 2": {acc(4, f, w), nil, -1},
		"2w 4": {acc(2, f, -1), some(w), -1},
		"2w 6": {acc(7, -1, w), some(f), -1},
		"3- 5": {acc(5, f, -1), nil, f},
		"3- 6": {acc(6, f, -1), nil, -1},
		"4w 4": {acc(5, w, -1), some(f), w},
		"4w 6": {acc(7, -1, w), some(f), -1},
		"6- 5": {acc(8, -1, -1), some(f), -1},
		"7w 4": {acc(7, -1, -1), some(w), -1},
	}
	s, ok := table[fmt.Sprintf("%d%s %d", r.State, map[bool]string{true: "w", false: "-"}[with], event)]
	return s, ok
}

const none = "{0 0 0}"

var far = []int{math.MinInt, -1 << 32, -2, 256, 257, 1 << 32, 1<<32 + 1, math.MaxInt}

// P21.1

func TestCheckBegin(t *testing.T) {
	numbers := append([]int{-1, 0, 5, 255}, far...)
	for _, state := range append([]int{0, 1, 2, 3, 4, 5, 6, 7, 8, 9, -1}, far...) {
		for _, frame := range numbers {
			for _, write := range numbers {
				r := acc(state, frame, write)
				err := valid(r)
				if got := readin.Check(r); got != err {
					t.Fatal(r, got, err)
				}
				if err == api.OK {
					continue
				}
				for _, event := range []int{1, 6, 9} {
					expect(t, [][2]string{{say(readin.Step(r, event, -1)), say(none, "[] 0", err)}, {say(readin.Run(r, []api.Change{{Role: event}})), say(none, 0, err)}})
				}
				expect(t, [][2]string{
					{say(readin.Events(r)), say("[]", err)},
					{say(readin.Run(r, nil)), say(none, 0, err)},
					{say(readin.Needs(r)), say(0, err)},
					{say(readin.Frames(r)), say("[]", err)},
					{say(readin.Over(r)), say(false, err)},
					{say(readin.Shortest(r)), say("[]", err)},
				})
			}
		}
	}
	for write := -1; write < 256; write++ {
		expect(t, [][2]string{{say(readin.Begin(write)), say(acc(1, -1, write), "ok")}})
	}
	for _, write := range far {
		expect(t, [][2]string{{say(readin.Begin(write)), none + " range"}})
	}
}

// P21.2

func TestStepEvents(t *testing.T) {
	for _, r := range all() {
		var events []int
		for event := 1; event <= 6; event++ {
			frame := -1
			if event == 1 {
				frame = 77
			}
			want := none + " [] 0 state"
			if s, ok := step(r, event, frame); ok {
				want = say(s.r, s.freed, s.mapped, "ok")
				events = append(events, event)
			}
			expect(t, [][2]string{{say(readin.Step(r, event, frame)), want}})
			for _, frame := range append([]int{-1, 0, 255}, far...) {
				isFrame := frame >= 0 && frame < 256
				if event == 1 != isFrame && !(event != 1 && frame == -1) {
					expect(t, [][2]string{{say(readin.Step(r, event, frame)), none + " [] 0 range"}})
				}
			}
		}
		for _, event := range append([]int{0, 7, -1}, far...) {
			expect(t, [][2]string{{say(readin.Step(r, event, 300)), none + " [] 0 kind"}})
		}
		expect(t, [][2]string{{say(readin.Events(r)), say(events, "ok")}, {say(readin.Over(r)), say(len(events) == 0, "ok")}})
	}
}

// P21.3

func TestRun(t *testing.T) {
	r := rand.New(rand.NewPCG(21, 21))
	starts := all()
	for range 4000 {
		a := starts[r.IntN(len(starts))]
		want, done, err := a, 0, api.OK
		var l []api.Change
		for range r.IntN(8) {
			c := api.Change{Role: 1 + r.IntN(6), Frame: -1}
			if events, _ := readin.Events(want); len(events) > 0 && r.IntN(6) > 0 {
				c.Role = events[r.IntN(len(events))]
			}
			if c.Role == 1 && r.IntN(9) > 0 {
				c.Frame = 100 + r.IntN(100)
			}
			l = append(l, c)
			if err != api.OK {
				continue
			}
			s, _, _, bad := readin.Step(want, c.Role, c.Frame)
			if err = bad; err == api.OK {
				want, done = s, done+1
			}
		}
		expect(t, [][2]string{{say(readin.Run(a, l)), say(want, done, err)}})
	}
}

// P21.4, P21.5

func TestNeedsFramesShortest(t *testing.T) {
	for _, r := range all() {
		needs := map[int]int{1: 3, 2: 2, 3: 1, 4: 1}[r.State]
		if r.State == 1 && r.Write >= 0 {
			needs = 2
		}
		var frames []int
		for _, f := range []int{r.Frame, r.Write} {
			if f >= 0 {
				frames = append(frames, f)
			}
		}
		slices.Sort(frames)
		ways := search(r, 5)
		short := "[] state"
		if len(ways) > 0 {
			best := slices.MinFunc(ways, func(a, b []int) int {
				if len(a) != len(b) {
					return len(a) - len(b)
				}
				return slices.Compare(a, b)
			})
			short = say(best, "ok")
		}
		expect(t, [][2]string{{say(readin.Needs(r)), say(needs, "ok")}, {say(readin.Frames(r)), say(frames, "ok")}, {say(readin.Shortest(r)), short}})
	}
}

// search returns all lists of at most n events after which the page is mapped.
func search(r api.ReadIn, n int) [][]int {
	if r.State == api.InDone {
		return [][]int{nil}
	}
	if n == 0 {
		return nil
	}
	var l [][]int
	for event := 1; event <= 6; event++ {
		if s, ok := step(r, event, 77); ok {
			for _, rest := range search(s.r, n-1) {
				l = append(l, append([]int{event}, rest...))
			}
		}
	}
	return l
}

// P21.6, P21.7, P21.8, P21.9

func TestTheoremRuns(t *testing.T) {
	for _, write := range []int{-1, 9} {
		r, _ := readin.Begin(write)
		got := map[int]bool{}
		if write >= 0 {
			got[write] = true
		}
		runs(t, r, got, map[int]int{}, 0, false)
	}
}

// runs goes through all runs: got are the frames that came, times how often each was freed or mapped.
func runs(t *testing.T, r api.ReadIn, got map[int]bool, times map[int]int, length int, killed bool) {
	t.Helper()
	frames, _ := readin.Frames(r)
	if r.State == api.InDone {
		frames = slices.DeleteFunc(frames, func(f int) bool { return f == r.Frame })
	}
	for f := range got {
		if n := times[f]; n > 1 || (n == 1) == slices.Contains(frames, f) {
			t.Fatal(r, f, n, frames)
		}
	}
	events, _ := readin.Events(r)
	over, _ := readin.Over(r)
	if length > 5 || over != (len(events) == 0) || over && !killed && r.State != api.InDone {
		t.Fatal(r, length, over)
	}
	needs, _ := readin.Needs(r)
	short, _ := readin.Shortest(r)
	for _, event := range events {
		frame := -1
		if event == api.AccFrame {
			frame = 77
		}
		s, freed, mapped, err := readin.Step(r, event, frame)
		if err != api.OK || readin.Check(s) != api.OK {
			t.Fatal(r, event, s, err)
		}
		after, _ := readin.Needs(s)
		if after > needs && event != api.AccWritten || len(short) > 0 && event == short[0] && after != needs-1 {
			t.Fatal(r, event, needs, after)
		}
		g, n := map[int]bool{}, map[int]int{}
		for f := range got {
			g[f], n[f] = true, times[f]
		}
		if frame >= 0 {
			g[frame] = true
		}
		for _, f := range freed {
			n[f]++
		}
		if mapped >= 0 {
			n[mapped]++
		}
		runs(t, s, g, n, length+1, killed || event == api.AccKill)
	}
}

// The examples of the chapter.

func TestExamples(t *testing.T) {
	c := func(l ...int) (changes []api.Change) {
		for i := 0; i < len(l); i += 2 {
			changes = append(changes, api.Change{Role: l[i], Frame: l[i+1]})
		}
		return changes
	}
	free, nine := acc(1, -1, -1), acc(1, -1, 9)
	expect(t, [][2]string{
		{say(readin.Run(free, c(1, 5))), "{2 5 -1} 1 ok"},
		{say(readin.Run(free, c(1, 5, 3, -1))), "{3 5 -1} 2 ok"},
		{say(readin.Run(free, c(1, 5, 3, -1, 5, -1))), "{5 5 -1} 3 ok"},
		{say(readin.Step(acc(3, 5, -1), 5, -1)), "{5 5 -1} [] 5 ok"},
		{say(readin.Step(nine, 2, -1)), "{4 -1 9} [] -1 ok"},
		{say(readin.Step(acc(4, -1, 9), 4, -1)), "{5 9 -1} [] 9 ok"},
		{say(readin.Step(nine, 4, -1)), "{1 -1 -1} [9] -1 ok"},
		{say(readin.Step(free, 1, 9)), "{2 9 -1} [] -1 ok"},
		{say(readin.Step(acc(4, 5, 9), 4, -1)), "{5 9 -1} [5] 9 ok"},
		{say(readin.Step(acc(4, 5, 9), 6, -1)), "{7 -1 9} [5] -1 ok"},
		{say(readin.Step(acc(7, -1, 9), 4, -1)), "{7 -1 -1} [9] -1 ok"},
		{say(readin.Step(acc(3, 5, -1), 6, -1)), "{6 5 -1} [] -1 ok"},
		{say(readin.Step(acc(6, 5, -1), 5, -1)), "{8 -1 -1} [5] -1 ok"},
		{say(readin.Step(free, 3, -1)), none + " [] 0 state"},
		{say(readin.Step(nine, 1, 5)), none + " [] 0 state"},
		{say(readin.Step(free, 7, -1)), none + " [] 0 kind"},
		{say(readin.Step(free, 1, -1)), none + " [] 0 range"},
		{say(readin.Needs(free)), "3 ok"},
		{say(readin.Shortest(free)), "[1 3 5] ok"},
		{say(readin.Needs(nine)), "2 ok"},
		{say(readin.Shortest(nine)), "[2 4] ok"},
	})
}
