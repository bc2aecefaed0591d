package held_test

import (
	"fmt"
	"math"
	"math/rand/v2"
	"slices"
	"strings"
	"testing"

	"headgate/api"
	"headgate/held"
)

// say writes values with blanks between them, errors by their names.
func say(l ...any) string { return strings.TrimSuffix(fmt.Sprintln(l...), "\n") }

// expect compares what calls gave with what they should give.
func expect(t *testing.T, l [][2]string) {
	t.Helper()
	for i, c := range l {
		if c[0] != c[1] {
			t.Fatalf("case %d: %.500q, not %.500q", i, c[0], c[1])
		}
	}
}

// of makes a list: slot, frame and claim of each write.
func of(l ...int) []api.WriteView {
	var w []api.WriteView
	for i := 0; i < len(l); i += 3 {
		w = append(w, api.WriteView{Slot: l[i], Frame: l[i+1], Claim: l[i+2]})
	}
	return w
}

// long returns a list of n writes.
func long(n int) []api.WriteView {
	var w []api.WriteView
	for i := range n {
		w = append(w, api.WriteView{Slot: i, Frame: 100 + i})
	}
	return w
}

const none = "{0 0 0}"

var far = []int{math.MinInt, -1 << 32, -1, 256, 257, 1 << 32, 1<<32 + 1, math.MaxInt}

// P19.1

func TestCheck(t *testing.T) {
	for _, c := range []struct {
		l    []api.WriteView
		want string
	}{
		{nil, "ok 0"}, {long(16), "ok 0"}, {long(17), "full 0"}, {append(long(16), of(999, 999, 999)...), "full 0"},
		{of(255, 255, 8, 0, 0, 1), "ok 0"}, {of(3, 4, 0, 4, 3, 0), "ok 0"}, {of(1, 2, 1, 2, 1, 2), "ok 0"},
		{of(256, 0, 0), "range 0"}, {of(0, 256, 0), "range 0"}, {of(0, 0, 9), "range 0"}, {of(0, 0, -1), "range 0"}, {of(-1, 0, 0), "range 0"}, {of(0, -1, 0), "range 0"},
		{of(0, 0, math.MinInt), "range 0"}, {of(0, 0, math.MaxInt), "range 0"}, {of(math.MaxInt, 0, 0), "range 0"},
		{of(3, 4, 0, 3, 5, 0), "exists 1"}, {of(3, 4, 0, 5, 4, 0), "exists 1"}, {of(3, 4, 2, 5, 6, 2), "exists 1"}, {of(3, 4, 2, 5, 6, 0, 7, 8, 2), "exists 2"},
		{of(3, 4, 0, 3, 300, 0), "range 1"}, {of(3, 4, 0, 3, 4, 0, 300, 0, 0), "exists 1"},
	} {
		expect(t, [][2]string{{say(held.Check(c.l)), c.want}})
		if e := strings.Fields(c.want)[0]; e != "ok" {
			for _, n := range []int{1, 3, -1, 999} {
				expect(t, [][2]string{
					{say(held.Add(c.l, n, n)), "[] " + e},
					{say(held.Find(c.l, n)), "0 " + e},
					{say(held.Claim(c.l, n, n)), "[] " + e},
					{say(held.Unclaim(c.l, n)), "[] false " + e},
					{say(held.Of(c.l, n)), none + " false " + e},
					{say(held.Remove(c.l, n)), "[] " + none + " " + e},
					{say(held.Frames(c.l)), "[] " + e},
				})
			}
		}
	}
	for _, l := range [][]api.WriteView{nil, of(3, 40, 2), long(16)} {
		for _, n := range far {
			expect(t, [][2]string{
				{say(held.Add(l, n, 40)), "[] range"},
				{say(held.Add(l, 3, n)), "[] range"},
				{say(held.Find(l, n)), "0 range"},
				{say(held.Claim(l, n, 1)), "[] range"},
				{say(held.Claim(l, 3, n)), "[] range"},
				{say(held.Claim(l, 77, n)), "[] range"},
				{say(held.Unclaim(l, n)), "[] false range"},
				{say(held.Of(l, n)), none + " false range"},
				{say(held.Remove(l, n)), "[] " + none + " range"},
			})
		}
		for _, proc := range []int{0, 9} {
			expect(t, [][2]string{
				{say(held.Claim(l, 3, proc)), "[] range"},
				{say(held.Unclaim(l, proc)), "[] false range"},
				{say(held.Of(l, proc)), none + " false range"},
			})
		}
	}
}

// some returns writes, always the same ones for a number.
func some(seed uint64) []api.WriteView {
	r := rand.New(rand.NewPCG(seed, 19))
	slots, frames, procs := r.Perm(20), r.Perm(20), r.Perm(8)
	var l []api.WriteView
	for i := range r.IntN(17) {
		w := api.WriteView{Slot: slots[i], Frame: frames[i]}
		if i < 8 && r.IntN(2) == 0 {
			w.Claim = procs[i] + 1
		}
		l = append(l, w)
	}
	return l
}

// scribble writes over results, and checks that the argument does not notice.
func scribble(t *testing.T, arg []api.WriteView, before string, result []api.WriteView) {
	t.Helper()
	for i := range result {
		result[i] = api.WriteView{Slot: 777}
	}
	_ = append(result, api.WriteView{Slot: 778})
	if say(arg) != before {
		t.Fatal("an argument was changed")
	}
}

// at returns the number of the first write for which f is true, -1 for none.
func at(l []api.WriteView, f func(w api.WriteView) bool) int { return slices.IndexFunc(l, f) }

// P19.2, P19.4

func TestAddFindRemove(t *testing.T) {
	for seed := range uint64(150) {
		l := some(seed)
		before := say(l)
		for slot := range 22 {
			i := at(l, func(w api.WriteView) bool { return w.Slot == slot })
			find, remove := "0 missing", "[] "+none+" missing"
			if i >= 0 {
				find, remove = say(i, "ok"), say(slices.Concat(l[:i], l[i+1:]), l[i], "ok")
			}
			expect(t, [][2]string{{say(held.Find(l, slot)), find}, {say(held.Remove(l, slot)), remove}})
			if less, _, err := held.Remove(l, slot); err == api.OK {
				scribble(t, l, before, less)
			}
			for frame := range 22 {
				add := say(append(slices.Clone(l), api.WriteView{Slot: slot, Frame: frame}), "ok")
				switch {
				case i >= 0 || at(l, func(w api.WriteView) bool { return w.Frame == frame }) >= 0:
					add = "[] exists"
				case len(l) == 16:
					add = "[] full"
				}
				more, err := held.Add(l, slot, frame)
				expect(t, [][2]string{{say(more, err), add}})
				if err == api.OK {
					expect(t, [][2]string{{say(held.Check(more)), "ok 0"}, {say(held.Remove(more, slot)), say(l, api.WriteView{Slot: slot, Frame: frame}, "ok")}})
					scribble(t, l, before, more)
				}
			}
		}
	}
}

// P19.3, P19.5, P19.6

func TestClaims(t *testing.T) {
	for seed := range uint64(150) {
		l := some(seed)
		before := say(l)
		for proc := 1; proc <= 8; proc++ {
			claimed := at(l, func(w api.WriteView) bool { return w.Claim == proc })
			of, un := none+" false ok", say(l, false, "ok")
			if claimed >= 0 {
				c := slices.Clone(l)
				c[claimed].Claim = 0
				of, un = say(l[claimed], true, "ok"), say(c, true, "ok")
			}
			expect(t, [][2]string{{say(held.Of(l, proc)), of}, {say(held.Unclaim(l, proc)), un}})
			c, _, _ := held.Unclaim(l, proc)
			scribble(t, l, before, c)
			for slot := range 22 {
				i := at(l, func(w api.WriteView) bool { return w.Slot == slot })
				want := "[] missing"
				switch {
				case i < 0:
				case l[i].Claim != 0:
					want = "[] state"
				case claimed >= 0:
					want = "[] exists"
				default:
					c := slices.Clone(l)
					c[i].Claim = proc
					want = say(c, "ok")
				}
				c, err := held.Claim(l, slot, proc)
				expect(t, [][2]string{{say(c, err), want}})
				if err == api.OK {
					expect(t, [][2]string{{say(held.Check(c)), "ok 0"}, {say(held.Unclaim(c, proc)), say(l, true, "ok")}})
					scribble(t, l, before, c)
				}
			}
		}
		var frames []int
		for _, w := range l {
			frames = append(frames, w.Frame)
		}
		slices.Sort(frames)
		expect(t, [][2]string{{say(held.Frames(l)), say(frames, "ok")}, {say(l), before}})
	}
}

// P19.7

func TestTheoremRemove(t *testing.T) {
	for seed := range uint64(150) {
		l := some(seed)
		for i, a := range l {
			for _, b := range l[i+1:] {
				x, _, _ := held.Remove(l, a.Slot)
				x, _, err := held.Remove(x, b.Slot)
				y, _, _ := held.Remove(l, b.Slot)
				y, _, err2 := held.Remove(y, a.Slot)
				expect(t, [][2]string{{say(x, err), say(y, err2)}, {say(err), "ok"}})
			}
		}
	}
}

// The examples of the chapter.

func TestExamples(t *testing.T) {
	two, claimed := of(3, 40, 0, 5, 41, 0), of(3, 40, 0, 5, 41, 2)
	expect(t, [][2]string{
		{say(held.Add(nil, 3, 40)), "[{3 40 0}] ok"},
		{say(held.Add(of(3, 40, 0), 5, 41)), say(two, "ok")},
		{say(held.Add(two, 3, 42)), "[] exists"},
		{say(held.Add(two, 6, 41)), "[] exists"},
		{say(held.Add(two, 256, 1)), "[] range"},
		{say(held.Claim(two, 5, 2)), say(claimed, "ok")},
		{say(held.Claim(claimed, 3, 2)), "[] exists"},
		{say(held.Claim(claimed, 5, 1)), "[] state"},
		{say(held.Claim(claimed, 5, 2)), "[] state"},
		{say(held.Claim(claimed, 4, 1)), "[] missing"},
		{say(held.Of(claimed, 2)), "{5 41 2} true ok"},
		{say(held.Of(claimed, 1)), none + " false ok"},
		{say(held.Unclaim(claimed, 2)), say(two, "true ok")},
		{say(held.Unclaim(claimed, 1)), say(claimed, "false ok")},
		{say(held.Remove(claimed, 3)), "[{5 41 2}] {3 40 0} ok"},
		{say(held.Find(claimed, 5)), "1 ok"},
		{say(held.Frames(claimed)), "[40 41] ok"},
	})
}
