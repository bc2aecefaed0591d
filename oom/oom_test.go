package oom_test

import (
	"fmt"
	"math"
	"math/rand/v2"
	"slices"
	"strings"
	"testing"

	"headgate/api"
	"headgate/entry"
	"headgate/oom"
	"headgate/reclaim"
	"headgate/zone"
)

// say writes values with blanks between them, errors by their names.
func say(l ...any) string { return strings.TrimSuffix(fmt.Sprintln(l...), "\n") }

// expect compares what calls gave with what they should give.
func expect(t *testing.T, l [][2]string) {
	t.Helper()
	for i, c := range l {
		if c[0] != c[1] {
			t.Fatalf("case %d: %.700q, not %.700q", i, c[0], c[1])
		}
	}
}

// of reads processes as the chapter writes them: Live, with the root 0, no leaves.
func of(s string) []api.ProcView {
	var l []api.ProcView
	for _, part := range strings.SplitAfter(s, ")") {
		if part == "" {
			continue
		}
		p := api.ProcView{State: api.Live, Leaves: [8]int{-1, -1, -1, -1, -1, -1, -1, -1}}
		for i, w := range strings.Fields(strings.Trim(part, "()")) {
			e, err := entry.Parse(w)
			if err != api.OK {
				panic(w)
			}
			p.Entries[i], _ = entry.Pack(e)
		}
		l = append(l, p)
	}
	return l
}

// some returns processes, always the same ones for a number.
func some(seed uint64) []api.ProcView {
	r := rand.New(rand.NewPCG(seed, 34))
	l := make([]api.ProcView, 1+r.IntN(8))
	for i := range l {
		p := &l[i]
		p.State, p.Root = r.IntN(3), 100+10*i
		if r.IntN(9) == 0 {
			p.Root = -1
		}
		for k := range p.Leaves {
			if p.Leaves[k] = -1; r.IntN(3) == 0 {
				p.Leaves[k] = 101 + 10*i + k
			}
		}
		for range r.IntN(6) {
			e := api.Entry{Kind: 1 + r.IntN(2), Number: r.IntN(9)}
			e.Cow = e.Kind == api.Present
			p.Entries[r.IntN(64)], _ = entry.Pack(e)
		}
	}
	return l
}

// unpack returns the entry of a word.
func unpack(w uint64) api.Entry {
	e, _ := entry.Unpack(w)
	return e
}

// score counts entries.
func score(p api.ProcView) (n int) {
	for _, w := range p.Entries {
		if unpack(w).Kind != api.None {
			n++
		}
	}
	return n
}

// ranks chooses one process after the other.
func ranks(l []api.ProcView, spawning []int) (chosen []int) {
	for {
		best := 0
		for i, p := range l {
			if p.State == api.Dead || slices.Contains(spawning, i+1) || slices.Contains(chosen, i+1) {
				continue
			}
			if best == 0 || score(p) > score(l[best-1]) {
				best = i + 1
			}
		}
		if best == 0 {
			return chosen
		}
		chosen = append(chosen, best)
	}
}

// yield counts the frames that only a process has.
func yield(l []api.ProcView, proc int) int {
	owners := map[int][]int{}
	for i, p := range l {
		for _, w := range p.Entries {
			if e := unpack(w); e.Kind == api.Present {
				owners[e.Number] = append(owners[e.Number], i+1)
			}
		}
	}
	n := 0
	for _, o := range owners {
		if slices.Min(o) == proc && slices.Max(o) == proc {
			n++
		}
	}
	p := l[proc-1]
	for _, f := range append(p.Leaves[:], p.Root) {
		if f >= 0 {
			n++
		}
	}
	return n
}

var far = []int{math.MinInt, -1 << 32, -1, 0, 9, 1 << 32, 1<<32 + 1, math.MaxInt}

// P34.1

func TestScores(t *testing.T) {
	for seed := range uint64(100) {
		l := some(seed)
		var scores []int
		for _, p := range l {
			scores = append(scores, score(p))
			expect(t, [][2]string{{say(oom.Score(p)), say(score(p), "ok")}})
		}
		expect(t, [][2]string{{say(oom.Scores(l)), say(scores, "ok")}})
		bad := some(seed)
		bad[len(bad)-1].Entries[63] = 0x711
		refused(t, bad, "form")
		bad[len(bad)-1].Entries[62] = 0x100
		refused(t, bad, "range")
		bad[0].Entries[3] = 3
		refused(t, bad, "kind")
		expect(t, [][2]string{{say(oom.Score(bad[0])), "0 kind"}})
	}
	refused(t, nil, "range")
	refused(t, append(of("()()()()()()()"), some(5)[:1]...), "")
	nine := slices.Repeat(of("(p1c)"), 9)
	nine[0].Entries[0] = 3
	refused(t, nine, "range")
}

// refused checks that all functions with processes return an error; nothing without one.
func refused(t *testing.T, l []api.ProcView, e string) {
	t.Helper()
	if e == "" {
		if _, err := oom.Scores(l); err != api.OK {
			t.Fatal(l, err)
		}
		return
	}
	for _, n := range []int{1, 99} {
		expect(t, [][2]string{
			{say(oom.Scores(l)), "[] " + e},
			{say(oom.Victim(l, []int{n})), "0 " + e},
			{say(oom.Ranks(l, []int{n})), "[] " + e},
			{say(oom.Yield(l, n)), "0 " + e},
		})
	}
}

// P34.2, P34.5, P34.6

func TestVictimRanks(t *testing.T) {
	for seed := range uint64(300) {
		l := some(seed)
		before := say(l)
		r := rand.New(rand.NewPCG(seed, 35))
		var spawning []int
		for range r.IntN(4) {
			spawning = append(spawning, 1+r.IntN(len(l)))
		}
		chosen := ranks(l, spawning)
		victim := "0 missing"
		if len(chosen) > 0 {
			victim = say(chosen[0], "ok")
		}
		expect(t, [][2]string{{say(oom.Ranks(l, spawning)), say(chosen, "ok")}, {say(oom.Victim(l, spawning)), victim}, {say(l), before}})
		dead := slices.Clone(l)
		for i, proc := range chosen {
			if i > 0 && score(l[proc-1]) > score(l[chosen[i-1]-1]) {
				t.Fatal(l, chosen)
			}
			expect(t, [][2]string{{say(oom.Victim(dead, spawning)), say(proc, "ok")}})
			dead[proc-1].State = api.Dead
		}
		for _, n := range append([]int{len(l) + 1}, far...) {
			if n < 1 || n > len(l) {
				expect(t, [][2]string{{say(oom.Victim(l, append(spawning, n))), "0 range"}, {say(oom.Ranks(l, []int{n, 1})), "[] range"}, {say(oom.Yield(l, n)), "0 range"}})
			}
		}
	}
}

// P34.3, P34.7

func TestYield(t *testing.T) {
	for seed := range uint64(300) {
		l := some(seed)
		all, sum, tables := map[int]bool{}, 0, 0
		for i, p := range l {
			want := "0 dead"
			if p.State != api.Dead {
				want = say(yield(l, i+1), "ok")
				sum += yield(l, i+1)
			}
			expect(t, [][2]string{{say(oom.Yield(l, i+1)), want}})
			for _, w := range p.Entries {
				if e := unpack(w); e.Kind == api.Present {
					all[e.Number] = true
				}
			}
			for _, f := range append(p.Leaves[:], p.Root) {
				if f >= 0 {
					tables++
				}
			}
		}
		if sum > tables+len(all) {
			t.Fatal(l, sum, tables, all)
		}
	}
}

// P34.4, P34.8

func TestAllowed(t *testing.T) {
	for i := range 4096 {
		bit := func(k int) int { return i >> k & 1 }
		x := api.Tally{Free: 4 + i%3, Min: 5, LowMark: 8, High: 12, Objects: bit(2), Active: bit(3), Inactive: bit(4), Cap: 2, Writes: bit(5) * 2, Orphans: bit(6), Room: bit(7), Slots: bit(8), Target: bit(9), Awake: bit(10) == 1}
		stuck, err := reclaim.Stuck(x)
		allowed, err2 := oom.Allowed(x)
		if err != api.OK || err2 != api.OK || allowed != (stuck && x.Free <= x.Min) {
			t.Fatal(x, allowed, err2)
		}
		writable := x.Active+x.Inactive > 0 && x.Writes < x.Cap && x.Room > 0 && x.Slots > 0
		if allowed && (x.Objects+x.Writes+x.Orphans > 0 || writable) {
			t.Fatal(x)
		}
		for _, f := range []func(){func() { x.Slots++ }, func() { x.Slots--; x.Free++ }} {
			f()
			if more, _ := oom.Allowed(x); more && !allowed {
				t.Fatal(x)
			}
		}
	}
	expect(t, [][2]string{{say(oom.Allowed(api.Tally{})), "false range"}, {say(oom.Allowed(api.Tally{LowMark: 1, High: 2, Cap: 1, Referenced: true})), "false form"}})
}

// P34.4, P34.9

func TestKSafe(t *testing.T) {
	for _, queue := range []int{4, 8, 9, 16, 17, 24, 25, 32} {
		for _, frames := range []int{100, 128, 200, 256} {
			for _, low := range []int{4, 9, 20} {
				for _, slots := range []int{1, 20, 256} {
					c := api.Config{Frames: frames, Low: 8, Slots: slots, Cap: 3, Queue: queue, Min: low, LowMark: low + 3, High: low + 6, MapCap: 64}
					if _, err := zone.Fit(c); err != api.OK {
						t.Fatal(c, err)
					}
					k := low + (queue+7)/8 + 72 + 10
					expect(t, [][2]string{{say(oom.K(c)), say(k, "ok")}})
					for mapped := range 513 {
						want := frames >= k && mapped <= frames+slots-k
						expect(t, [][2]string{{say(oom.Safe(c, mapped)), say(want, "ok")}})
					}
					for _, n := range []int{-1, 513, math.MinInt, math.MaxInt} {
						expect(t, [][2]string{{say(oom.Safe(c, n)), "false range"}})
					}
				}
			}
		}
	}
	exact := api.Config{Frames: 100, Low: 8, Slots: 5, Cap: 3, Queue: 16, Min: 16, LowMark: 17, High: 18, MapCap: 64}
	expect(t, [][2]string{{say(oom.K(exact)), "100 ok"}, {say(oom.Safe(exact, 5)), "true ok"}, {say(oom.Safe(exact, 6)), "false ok"}})
	exact.Min++
	exact.LowMark, exact.High = 18, 19
	expect(t, [][2]string{{say(oom.K(exact)), "101 ok"}, {say(oom.Safe(exact, 4)), "false ok"}, {say(oom.Safe(exact, 0)), "false ok"}})
	for _, n := range []int{0, -1} {
		expect(t, [][2]string{{say(oom.K(api.Config{})), "0 range"}, {say(oom.Safe(api.Config{}, n)), "false range"}})
	}
	order := api.Config{Frames: 128, Low: 8, Slots: 8, Cap: 3, Queue: 8, Min: 3, LowMark: 6, High: 9, MapCap: 64}
	expect(t, [][2]string{{say(oom.K(order)), "0 order"}, {say(oom.Safe(order, -1)), "false order"}})
}

// The examples of the chapter.

func TestExamples(t *testing.T) {
	three := of("(p1c s2)(p1c p3w)(p4w)")
	two := of("(p1c s2)(p1c p3w)")
	c := api.Config{Frames: 128, Low: 8, Slots: 20, Cap: 3, Queue: 8, Min: 4, LowMark: 6, High: 9, MapCap: 64}
	expect(t, [][2]string{
		{say(oom.Score(of("(p1w - s3 p2c)")[0])), "3 ok"},
		{say(oom.Scores(of("(p1w)(-)"))), "[1 0] ok"},
		{say(oom.Victim(three, nil)), "1 ok"},
		{say(oom.Victim(three, []int{1})), "2 ok"},
		{say(oom.Victim(three, []int{1, 2, 3})), "0 missing"},
		{say(oom.Ranks(of("(p4w)(p1c s2)(p1c p3w)"), nil)), "[2 3 1] ok"},
		{say(oom.Yield(two, 1)), "1 ok"},
		{say(oom.Yield(two, 2)), "2 ok"},
		{say(oom.Yield(two, 3)), "0 range"},
		{say(oom.K(c)), "87 ok"},
		{say(oom.Safe(c, 61)), "true ok"},
		{say(oom.Safe(c, 62)), "false ok"},
	})
}
