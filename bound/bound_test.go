package bound_test

import (
	"fmt"
	"math"
	"math/rand/v2"
	"slices"
	"strings"
	"testing"

	"headgate/api"
	"headgate/bound"
	"headgate/kernel"
	"headgate/oom"
	"headgate/zone"
)

// say writes values with blanks between them, errors by their names.
func say(l ...any) string { return strings.TrimSuffix(fmt.Sprintln(l...), "\n") }

// expect compares what calls gave with what they should give.
func expect(t *testing.T, l [][2]string) {
	t.Helper()
	for i, c := range l {
		if c[0] != c[1] {
			t.Fatalf("case %d: %.900q, not %.900q", i, c[0], c[1])
		}
	}
}

// config is the configuration of the examples.
var config = api.Config{Frames: 40, Low: 8, Slots: 8, Cap: 2, Queue: 4, Min: 3, LowMark: 6, High: 9, MapCap: 64}

var configs = []api.Config{
	config,
	{Frames: 22, Low: 6, Slots: 2, Cap: 1, Queue: 2, Min: 2, LowMark: 4, High: 8, MapCap: 30},
	{Frames: 26, Low: 26, Slots: 1, Cap: 2, Queue: 3, Min: 3, LowMark: 4, High: 5, MapCap: 64},
	{Frames: 30, Low: 1, Slots: 40, Cap: 3, Queue: 9, Min: 5, LowMark: 9, High: 16, MapCap: 64},
	{Frames: 110, Low: 20, Slots: 30, Cap: 2, Queue: 8, Min: 3, LowMark: 5, High: 8, MapCap: 64},
}

// some returns an experiment, always the same one for a number.
func some(seed uint64) api.Script {
	r := rand.New(rand.NewPCG(seed, 43))
	s := api.Script{Config: configs[seed%5]}
	add := func(kind, proc, a, b int, v uint64) {
		s.Commands = append(s.Commands, api.Command{Kind: kind, Proc: proc, A: a, B: b, Value: v})
	}
	procs := 2 + r.IntN(5)
	for range 320 {
		p, page := 1+r.IntN(procs), r.IntN(48)
		if seed%5 == 4 {
			// Few pages: with this configuration nobody has to be killed.
			p, page = 1+p%2, page%24
		}
		switch n := r.IntN(40); {
		case n < 3:
			add(api.DoSpawn, p, 0, 0, 0)
		case n < 8:
			add(api.DoMap, p, page/8*8, page/8*8+7, 0)
		case n < 18:
			add(api.DoWrite, p, page, r.IntN(8), uint64(n))
		case n < 22:
			add(api.DoRead, p, page, r.IntN(8), 0)
		case n < 24:
			add(api.DoFork, p, 1+p%procs, 0, 0)
		case n == 24:
			add(api.DoKill, p, 0, 0, 0)
		case n == 25:
			add(api.DoHoard, 0, 1+r.IntN(3), 0, 0)
		case n < 33:
			add(api.DoPick, r.IntN(procs+1), 0, 0, 0)
		case n < 34:
			add(api.DoComplete, 0, 0, 0, 0)
		case n < 39:
			add(api.DoRounds, 0, 1+r.IntN(6), 0, 0)
		default:
			add(api.DoUnmap, p, page, page, 0)
		}
	}
	return s
}

// result is what an experiment does: outcomes with the rounds that came before, and the command of each.
type result struct {
	outcomes []api.Outcome
	rounds   []int
	kinds    []int
	waiting  [][]uint64 // behind the commands, and behind each round
	pages    int
}

// run does an experiment and rounds, one by one.
func run(t *testing.T, s api.Script, most int) (r result) {
	t.Helper()
	k, err := kernel.New(s.Config)
	if err != api.OK {
		t.Fatal(err)
	}
	step := func(c api.Command, round int) {
		out, _ := k.Step(c)
		for _, o := range out {
			r.outcomes, r.rounds, r.kinds = append(r.outcomes, o), append(r.rounds, round), append(r.kinds, c.Kind)
		}
	}
	look := func() {
		var l []uint64
		for _, q := range k.Snapshot().Requests {
			l = append(l, q.Ticket)
		}
		r.waiting = append(r.waiting, l)
	}
	for _, c := range s.Commands {
		step(c, 0)
		n := 0
		for _, p := range k.Snapshot().Procs {
			for _, g := range p.Regions {
				n += g.To - g.From + 1
			}
		}
		r.pages = max(r.pages, n)
	}
	look()
	for n := range most {
		step(api.Command{Kind: api.DoRounds, A: 1}, n+1)
		look()
	}
	return r
}

// P43.1

func TestRoundsBound(t *testing.T) {
	for cap := 1; cap <= 16; cap++ {
		c := api.Config{Frames: 256, Low: 8, Slots: 8, Cap: cap, Queue: 17, Min: 20, LowMark: 30, High: 40, MapCap: 64}
		n := 14 * (8 + 2*cap + 64)
		expect(t, [][2]string{{say(bound.Rounds(c)), say(n, "ok")}})
		for _, head := range []uint64{0, 1, 2, 1000, api.MaxTickets, api.MaxTickets + 1, math.MaxUint64} {
			for _, ticket := range []uint64{0, 1, 2, 1000, api.MaxTickets, api.MaxTickets + 1, math.MaxUint64} {
				want := "0 range"
				if head >= 1 && ticket >= head && ticket <= api.MaxTickets {
					want = say(uint64(n)*(ticket-head+1), "ok")
				}
				expect(t, [][2]string{{say(bound.Bound(c, head, ticket)), want}})
			}
		}
	}
	low := config
	low.Min = 2
	for _, c := range []api.Config{{}, low} {
		_, err := zone.Fit(c)
		expect(t, [][2]string{{say(bound.Rounds(c)), say(0, err)}, {say(bound.Bound(c, 0, 0)), say(0, err)}})
	}
}

// P43.2

func TestErrors(t *testing.T) {
	low := config
	low.Min = 2
	good := api.Script{Config: config, Commands: []api.Command{{Kind: api.DoSpawn, Proc: 1}}}
	for _, c := range []struct {
		s api.Script
		f string
	}{
		{api.Script{}, "{range 0}"}, {api.Script{Config: low, Commands: make([]api.Command, 1)}, "{order 0}"},
		{api.Script{Config: config, Commands: make([]api.Command, 401)}, "{long 400}"},
		{api.Script{Config: config, Commands: append(slices.Clone(good.Commands), api.Command{Kind: 99})}, "{kind 1}"},
	} {
		for _, most := range []int{5, -1, 9999} {
			expect(t, [][2]string{
				{say(bound.Settle(c.s, 1, most)), "0 0 " + c.f},
				{say(bound.Rest(c.s, most)), "0 [] " + c.f},
				{say(bound.Kills(c.s, most)), "[] " + c.f},
				{say(bound.Pages(c.s)), "0 " + c.f},
			})
		}
	}
	for _, most := range []int{-1, 2001, math.MinInt, math.MaxInt} {
		expect(t, [][2]string{
			{say(bound.Settle(good, 1, most)), "0 0 {range 0}"},
			{say(bound.Settle(good, 9, most)), "0 0 {range 0}"},
			{say(bound.Rest(good, most)), "0 [] {range 0}"},
			{say(bound.Kills(good, most)), "[] {range 0}"},
		})
	}
	expect(t, [][2]string{{say(bound.Settle(good, 1, 2000)), "2 6 {ok 0}"}, {say(bound.Settle(good, 0, 5)), "0 0 {missing 0}"}})
}

// P43.2, P43.3, P43.4, P43.8

func TestExperiments(t *testing.T) {
	kills := 0
	for seed := range uint64(40) {
		s := some(seed)
		before := say(s)
		const most = 40
		r := run(t, s, most)
		for _, n := range []int{0, 1, 2, 5, most} {
			rounds := 0
			for rounds < n && len(r.waiting[rounds]) > 0 {
				rounds++
			}
			expect(t, [][2]string{{say(bound.Rest(s, n)), say(rounds, r.waiting[rounds], "{ok 0}")}})
			var killed []int
			for i, o := range r.outcomes {
				if o.Kind == api.Killed && r.kinds[i] != api.DoKill && r.rounds[i] <= n {
					killed = append(killed, o.Proc)
				}
			}
			kills += len(killed)
			expect(t, [][2]string{{say(bound.Kills(s, n)), say(killed, "{ok 0}")}})
			for ticket := uint64(1); ticket < 200; ticket += 1 + ticket/5 {
				expect(t, [][2]string{{say(bound.Settle(s, ticket, n)), settle(r, ticket, n)}})
			}
		}
		expect(t, [][2]string{{say(bound.Pages(s)), say(r.pages, "{ok 0}")}, {say(s), before}})
	}
	if kills < 10 {
		t.Error(kills)
	}
}

// settle says from a result what Settle should return.
func settle(r result, ticket uint64, most int) string {
	queued := false
	for i, o := range r.outcomes {
		if o.Ticket != ticket {
			continue
		}
		if o.Kind == api.Queued {
			queued = true
			continue
		}
		if r.rounds[i] > most {
			break
		}
		return say(r.rounds[i], o.Kind, "{ok 0}")
	}
	if queued {
		return "0 0 {full 0}"
	}
	return "0 0 {missing 0}"
}

// P43.5, P43.6, P43.7

func TestTheorems(t *testing.T) {
	safe := 0
	for seed := range uint64(80) {
		s := some(seed)
		r := run(t, s, 0)
		waiting := r.waiting[0]
		for _, ticket := range waiting {
			limit, err := bound.Bound(s.Config, waiting[0], ticket)
			rounds, _, f := bound.Settle(s, ticket, int(min(limit, 2000)))
			if err != api.OK || f.Err != api.OK || uint64(rounds) > limit {
				t.Fatal(seed, ticket, limit, rounds, f)
			}
		}
		if len(waiting) > 0 {
			limit, _ := bound.Bound(s.Config, waiting[0], waiting[len(waiting)-1])
			if rounds, left, f := bound.Rest(s, int(min(limit, 2000))); len(left) > 0 || f.Err != api.OK {
				t.Fatal(seed, rounds, left, f)
			}
		}
		if ok, _ := oom.Safe(s.Config, r.pages); ok {
			safe++
			expect(t, [][2]string{{say(bound.Kills(s, 200)), "[] {ok 0}"}})
		}
	}
	if safe < 5 {
		t.Error(safe)
	}
}

// The examples of the chapter.

func TestExamples(t *testing.T) {
	s := api.Script{Config: config, Commands: []api.Command{{Kind: api.DoSpawn, Proc: 1}}}
	kill := api.Script{Config: config, Commands: append(slices.Clone(s.Commands), api.Command{Kind: api.DoKill, Proc: 1})}
	expect(t, [][2]string{
		{say(bound.Rounds(config)), "1064 ok"},
		{say(bound.Bound(config, 3, 5)), "3192 ok"},
		{say(bound.Bound(config, 0, 1)), "0 range"},
		{say(bound.Bound(config, 2, 1)), "0 range"},
		{say(bound.Settle(s, 1, 10)), "2 6 {ok 0}"},
		{say(bound.Settle(s, 1, 1)), "0 0 {full 0}"},
		{say(bound.Settle(s, 2, 10)), "0 0 {missing 0}"},
		{say(bound.Rest(s, 10)), "2 [] {ok 0}"},
		{say(bound.Rest(s, 1)), "1 [1] {ok 0}"},
		{say(bound.Rest(s, 0)), "0 [1] {ok 0}"},
		{say(bound.Kills(s, 10)), "[] {ok 0}"},
		{say(bound.Pages(s)), "0 {ok 0}"},
		{say(bound.Settle(kill, 1, 10)), "2 6 {ok 0}"},
	})
}
