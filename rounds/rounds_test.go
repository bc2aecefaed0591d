package rounds_test

import (
	"fmt"
	"math"
	"math/rand/v2"
	"slices"
	"strconv"
	"strings"
	"testing"

	"headgate/api"
	"headgate/rounds"
)

// say writes values with blanks between them, errors by their names.
func say(l ...any) string { return strings.TrimSuffix(fmt.Sprintln(l...), "\n") }

// expect compares what calls gave with what they should give.
func expect(t *testing.T, l [][2]string) {
	t.Helper()
	for i, c := range l {
		if c[0] != c[1] {
			t.Fatalf("case %d: %.700q, not %.700q", i, c[0], c[1])
		}
	}
}

// of reads a log as the chapter writes it: a number for a pick, +p and -p, s5 and c5.
func of(s string) []api.LogEntry {
	var l []api.LogEntry
	for _, w := range strings.Fields(s) {
		kind := map[byte]int{'+': api.LogBlock, '-': api.LogUnblock, 's': api.LogSubmit, 'c': api.LogComplete}[w[0]]
		n, _ := strconv.Atoi(strings.TrimLeft(w, "+-sc"))
		if kind == 0 {
			kind = api.LogPick
		}
		l = append(l, api.LogEntry{Kind: kind, Who: n})
	}
	return l
}

// at makes a moment.
func at(blocked, pending []int) api.Moment { return api.Moment{Blocked: blocked, Pending: pending} }

// state is who is blocked and what is pending.
type state struct{ blocked, pending map[int]bool }

func open(m api.Moment) state {
	s := state{map[int]bool{}, map[int]bool{}}
	for _, p := range m.Blocked {
		s.blocked[p] = true
	}
	for _, n := range m.Pending {
		s.pending[n] = true
	}
	return s
}

func (s state) add(e api.LogEntry) {
	switch e.Kind {
	case api.LogBlock:
		s.blocked[e.Who] = true
	case api.LogUnblock:
		delete(s.blocked, e.Who)
	case api.LogSubmit:
		s.pending[e.Who] = true
	case api.LogComplete:
		delete(s.pending, e.Who)
	}
}

func (s state) moment() api.Moment { return at(keys(s.blocked), keys(s.pending)) }

func keys(m map[int]bool) (l []int) {
	for k := range m {
		l = append(l, k)
	}
	slices.Sort(l)
	return l
}

// after returns the moment behind some entries.
func after(m api.Moment, l []api.LogEntry) api.Moment {
	s := open(m)
	for _, e := range l {
		s.add(e)
	}
	return s.moment()
}

// owed returns what a segment that begins at a moment owes behind some entries.
func owed(m api.Moment, l []api.LogEntry) (procs, slots []int) {
	for _, p := range append([]int{0}, m.Blocked...) {
		if !slices.Contains(l, api.LogEntry{Kind: api.LogPick, Who: p}) && !slices.Contains(l, api.LogEntry{Kind: api.LogUnblock, Who: p}) {
			procs = append(procs, p)
		}
	}
	for _, n := range m.Pending {
		if !slices.Contains(l, api.LogEntry{Kind: api.LogComplete, Who: n}) {
			slots = append(slots, n)
		}
	}
	return procs, slots
}

// ends cuts rounds one after the other, by trying all lengths.
func ends(m api.Moment, l []api.LogEntry) (numbers []int) {
	from := 0
	for from < len(l) {
		begin := after(m, l[:from])
		end := -1
		for to := from + 1; to <= len(l) && end < 0; to++ {
			if p, s := owed(begin, l[from:to]); len(p)+len(s) == 0 {
				end = to
			}
		}
		if end < 0 {
			break
		}
		numbers, from = append(numbers, end), end
	}
	return numbers
}

// some returns a moment and a log that is valid for it, always the same ones for a number.
func some(seed uint64, n int) (api.Moment, []api.LogEntry) {
	r := rand.New(rand.NewPCG(seed, 38))
	m := api.Moment{}
	for p := 1; p <= 8; p++ {
		if r.IntN(4) == 0 {
			m.Blocked = append(m.Blocked, p)
		}
	}
	for _, s := range []int{0, 1, 7, 255} {
		if r.IntN(3) == 0 {
			m.Pending = append(m.Pending, s)
		}
	}
	s := open(m)
	var l []api.LogEntry
	for range n {
		p, slot := 1+r.IntN(8), []int{0, 1, 7, 255}[r.IntN(4)]
		e := api.LogEntry{Kind: api.LogPick, Who: r.IntN(9)}
		switch r.IntN(5) {
		case 0:
			e = api.LogEntry{Kind: api.LogBlock, Who: p}
			if s.blocked[p] {
				e.Kind = api.LogUnblock
			}
		case 1:
			e = api.LogEntry{Kind: api.LogSubmit, Who: slot}
			if s.pending[slot] {
				e.Kind = api.LogComplete
			}
		}
		s.add(e)
		l = append(l, e)
	}
	return m, l
}

const none = "{[] []}"

// refused checks that all functions return an error.
func refused(t *testing.T, m api.Moment, l []api.LogEntry, want string) {
	t.Helper()
	e := strings.Fields(want)[0]
	expect(t, [][2]string{
		{say(rounds.Valid(m, l)), want},
		{say(rounds.After(m, l)), none + " " + e},
		{say(rounds.Ends(m, l)), "[] " + e},
		{say(rounds.Owed(m, l)), "[] [] " + e},
		{say(rounds.Is(m, l)), "false " + e},
		{say(rounds.Within(m, l, 0, 0)), "0 " + e},
		{say(rounds.Within(m, l, -1, 0)), "0 " + e},
	})
}

// P38.1

func TestCheckValid(t *testing.T) {
	for _, c := range []struct {
		m api.Moment
		e string
	}{
		{at([]int{2, 1}, nil), "order"}, {at([]int{1, 1}, nil), "order"}, {at([]int{0}, nil), "range"}, {at([]int{9}, nil), "range"}, {at([]int{2, 9, 1}, nil), "range"}, {at([]int{2, 1, 9}, nil), "order"}, {at([]int{2, 1}, []int{300}), "order"}, {at(nil, []int{256}), "range"}, {at(nil, []int{-1}), "range"}, {at(nil, []int{3, 3}), "order"}, {at([]int{9}, []int{3, 3}), "range"}, {at([]int{math.MinInt}, nil), "range"}, {at(nil, []int{math.MaxInt}), "range"},
	} {
		expect(t, [][2]string{{say(rounds.Check(c.m)), c.e}, {say(rounds.Fair(c.m)), "[] " + c.e}})
		refused(t, c.m, nil, c.e+" 0")
		refused(t, c.m, make([]api.LogEntry, 5001), c.e+" 0")
	}
	none := at(nil, nil)
	full := at([]int{1, 2, 3, 4, 5, 6, 7, 8}, []int{0, 5, 255})
	expect(t, [][2]string{{say(rounds.Check(none)), "ok"}, {say(rounds.Check(full)), "ok"}, {say(rounds.Valid(none, slices.Repeat(of("0"), 5000))), "ok 0"}})
	refused(t, none, slices.Repeat(of("0"), 5001), "full 0")
	refused(t, none, make([]api.LogEntry, 5001), "full 0")
	for _, kind := range []int{0, 6, -1, math.MinInt, math.MaxInt} {
		refused(t, none, append(of("0 +1"), api.LogEntry{Kind: kind, Who: 999}), "kind 2")
	}
	for _, who := range []int{-1, 256, 1 << 32, math.MinInt, math.MaxInt} {
		for kind := 1; kind <= 5; kind++ {
			refused(t, full, append(of("0"), api.LogEntry{Kind: kind, Who: who}), "range 1")
		}
	}
	for _, s := range []string{"9", "+9", "-9", "+0", "-0"} {
		refused(t, none, of("0 0 "+s+" 99"), "range 2")
	}
	for _, s := range []string{"-1", "c5", "+1 +1", "s5 s5", "+1 -1 -1", "s5 c5 c5", "+2 -1"} {
		l := of(s)
		refused(t, none, append(l, of("99")...), say("state", len(l)-1))
	}
	for _, s := range []string{"+3", "s5", "-3 -3", "c5 c5"} {
		l := of(s)
		refused(t, full, l, say("state", len(l)-1))
	}
	expect(t, [][2]string{{say(rounds.Valid(full, of("-3 +3 -3 c5 s5 c5 8 0 c0 c255 -8"))), "ok 0"}})
}

// P38.2, P38.4, P38.5, P38.6, P38.7, P38.9

func TestLogs(t *testing.T) {
	for seed := range uint64(250) {
		m, l := some(seed, []int{0, 1, 2, 5, 12, 30, 60}[seed%7])
		before := say(m, l)
		numbers := ends(m, l)
		last := 0
		if len(numbers) > 0 {
			last = numbers[len(numbers)-1]
		}
		procs, slots := owed(after(m, l[:last]), l[last:])
		expect(t, [][2]string{
			{say(rounds.Valid(m, l)), "ok 0"},
			{say(rounds.After(m, l)), say(after(m, l), "ok")},
			{say(rounds.Ends(m, l)), say(numbers, "ok")},
			{say(rounds.Owed(m, l)), say(procs, slots, "ok")},
			{say(rounds.Is(m, l)), say(len(numbers) == 1 && last == len(l), "ok")},
		})
		picks := 0
		for _, e := range l {
			if e == (api.LogEntry{Kind: api.LogPick}) {
				picks++
			}
		}
		if len(numbers) > picks {
			t.Fatal(l, numbers)
		}
		part, _ := rounds.Ends(m, l[:len(l)/2])
		if len(part) > len(numbers) || !slices.Equal(part, numbers[:len(part)]) {
			t.Fatal(l, numbers, part)
		}
		for from := -1; from <= len(l)+1; from++ {
			for to := -1; to <= len(l)+1; to++ {
				want := "0 range"
				if from >= 0 && from <= to && to <= len(l) {
					n := len(ends(after(m, l[:from]), l[from:to]))
					want = say(n, "ok")
					later := 0
					for i, e := range numbers {
						begin := 0
						if i > 0 {
							begin = numbers[i-1]
						}
						if begin >= from && e <= to {
							later++
						}
					}
					if whole := len(ends(m, l[:to])); n > whole || n < later {
						t.Fatal(l, from, to, n, whole, later)
					}
				}
				expect(t, [][2]string{{say(rounds.Within(m, l, from, to)), want}})
			}
		}
		for _, n := range []int{math.MinInt, math.MaxInt} {
			expect(t, [][2]string{{say(rounds.Within(m, l, n, 0)), "0 range"}, {say(rounds.Within(m, l, 0, n)), "0 range"}})
		}
		for _, p := range procs {
			if p > 0 && (!slices.Contains(after(m, l[:last]).Blocked, p) || !slices.Contains(after(m, l).Blocked, p)) {
				t.Fatal(l, procs)
			}
		}
		expect(t, [][2]string{{say(m, l), before}})
	}
}

// P38.3, P38.8

func TestFair(t *testing.T) {
	r := rand.New(rand.NewPCG(1, 38))
	for seed := range uint64(150) {
		m, _ := some(seed, 0)
		var commands []api.Command
		var l []api.LogEntry
		for _, slot := range m.Pending {
			commands = append(commands, api.Command{Kind: api.DoComplete})
			l = append(l, api.LogEntry{Kind: api.LogComplete, Who: slot})
		}
		for _, p := range append(slices.Clone(m.Blocked), 0) {
			commands = append(commands, api.Command{Kind: api.DoPick, Proc: p})
			l = append(l, api.LogEntry{Kind: api.LogPick, Who: p})
		}
		expect(t, [][2]string{{say(rounds.Fair(m)), say(commands, "ok")}})
		for range 5 {
			r.Shuffle(len(l), func(i, j int) { l[i], l[j] = l[j], l[i] })
			expect(t, [][2]string{{say(rounds.Is(m, l)), "true ok"}, {say(rounds.Ends(m, l)), say([]int{len(l)}, "ok")}})
		}
	}
}

// The examples of the chapter.

func TestExamples(t *testing.T) {
	none, one, both := at(nil, nil), at([]int{1}, nil), at([]int{1}, []int{5})
	expect(t, [][2]string{
		{say(rounds.Ends(none, of("0 0"))), "[1 2] ok"},
		{say(rounds.Ends(one, of("0 1 0 1 1"))), "[2 4] ok"},
		{say(rounds.Ends(both, of("0 1 c5"))), "[3] ok"},
		{say(rounds.Owed(both, of("0 1"))), "[] [5] ok"},
		{say(rounds.Is(both, of("0 1 c5"))), "true ok"},
		{say(rounds.Ends(one, of("+2 0 -1"))), "[3] ok"},
		{say(rounds.Owed(one, of("+2 0 -1"))), "[0 2] [] ok"},
		{say(rounds.Ends(none, of("+1 s5 0 0"))), "[3] ok"},
		{say(rounds.Owed(none, of("+1 s5 0 0"))), "[1] [5] ok"},
		{say(rounds.Valid(none, of("-1"))), "state 0"},
		{say(rounds.Valid(none, of("9"))), "range 0"},
		{say(rounds.Valid(at(nil, []int{5}), of("s5"))), "state 0"},
		{say(rounds.Check(at([]int{2, 1}, nil))), "order"},
		{say(rounds.Fair(at([]int{1, 3}, []int{5}))), say([]api.Command{{Kind: 10}, {Kind: 9, Proc: 1}, {Kind: 9, Proc: 3}, {Kind: 9}}, "ok")},
	})
}
