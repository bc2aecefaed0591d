package bench_test

import (
	"fmt"
	"math"
	"math/rand/v2"
	"slices"
	"strings"
	"testing"

	"headgate/api"
	"headgate/bench"
	"headgate/kernel"
	"headgate/model"
	"headgate/script"
	"headgate/trace"
)

// say writes values with blanks between them, errors by their names.
func say(l ...any) string { return strings.TrimSuffix(fmt.Sprintln(l...), "\n") }

// expect compares what calls gave with what they should give.
func expect(t *testing.T, l [][2]string) {
	t.Helper()
	for i, c := range l {
		if c[0] != c[1] {
			t.Fatalf("case %d: %.900q, not %.900q", i, c[0], c[1])
		}
	}
}

// head is the row of the configuration of the examples.
const head = "machine 40 8 8 2 4 3 6 9 64\n"

var configs = []api.Config{
	{Frames: 40, Low: 8, Slots: 8, Cap: 2, Queue: 4, Min: 3, LowMark: 6, High: 9, MapCap: 64},
	{Frames: 22, Low: 6, Slots: 2, Cap: 1, Queue: 2, Min: 2, LowMark: 4, High: 8, MapCap: 30},
	{Frames: 18, Low: 9, Slots: 1, Cap: 1, Queue: 2, Min: 2, LowMark: 3, High: 5, MapCap: 64},
}

// some returns an experiment of n commands, always the same one for a number.
func some(seed uint64, n int) api.Script {
	r := rand.New(rand.NewPCG(seed, 44))
	s := api.Script{Config: configs[seed%3]}
	for len(s.Commands) < n {
		p, page := 1+r.IntN(3), r.IntN(24)
		c := []api.Command{
			{Kind: api.DoSpawn, Proc: p}, {Kind: api.DoMap, Proc: p, A: page / 8 * 8, B: page/8*8 + 7}, {Kind: api.DoWrite, Proc: p, A: page, B: 1, Value: r.Uint64N(9)}, {Kind: api.DoWrite, Proc: p, A: page, B: 2, Value: 3},
			{Kind: api.DoRead, Proc: p, A: page, B: 1}, {Kind: api.DoRounds, A: 1 + r.IntN(5)}, {Kind: api.DoRounds, A: 4}, {Kind: api.DoFork, Proc: p, A: p%3 + 1}, {Kind: api.DoPick, Proc: p}, {Kind: api.DoPick},
			{Kind: api.DoComplete}, {Kind: api.DoUnmap, Proc: p, A: page, B: page}, {Kind: api.DoKill, Proc: p}, {Kind: api.DoHoard, A: 2},
		}[min(r.IntN(14), r.IntN(20))]
		s.Commands = append(s.Commands, c)
		if r.IntN(6) == 0 && len(s.Commands) < n {
			s.Commands = append(s.Commands, c)
		}
	}
	return s
}

// text writes an experiment.
func text(t *testing.T, s api.Script) string {
	t.Helper()
	x, err := script.Text(s)
	if err != api.OK {
		t.Fatal(err)
	}
	return x
}

// run returns the trace of an experiment, how many commands failed, and the kernel behind it.
func run(t *testing.T, s api.Script) ([]api.Outcome, int, *kernel.Kernel) {
	t.Helper()
	k, err := kernel.New(s.Config)
	if err != api.OK {
		t.Fatal(err)
	}
	l, failed := k.Run(s.Commands)
	return l, failed, k
}

// refused checks that all functions return a fault for a text.
func refused(t *testing.T, text, f string) {
	t.Helper()
	expect(t, [][2]string{
		{say(bench.Run(text)), " 0 " + f},
		{say(bench.Judge(text)), "0 [] " + f},
		{say(bench.Compare(text, "fly 1")), "0 " + f},
		{say(bench.Insert(text, -1, api.Command{})), " " + f},
		{say(bench.Shrink(text, 99, 99)), " " + f},
		{say(bench.Settle(text, -1)), "0 false " + f},
		{say(bench.Needless(text)), "[] " + f},
	})
}

// P44.1

func TestFaults(t *testing.T) {
	for _, c := range [][2]string{
		{"", "{missing 0}"}, {"spawn 1", "{name 0}"}, {"machine 40 8 8 2 4 2 6 9 64", "{order 0}"}, {head + "fly 1", "{name 28}"}, {head + "spawn 9", "{range 28}"}, {head + "spawn", "{form 28}"}, {head + "SPAWN", "{form 28}"}, {head + strings.Repeat("pick 0\n", 401), "{long 2828}"}, {strings.Repeat("\n", 20001), "{long 20000}"},
	} {
		refused(t, c[0], c[1])
	}
}

// P44.1, P44.2, P44.6

func TestRunJudgeCompare(t *testing.T) {
	for seed := range uint64(60) {
		s := some(seed, []int{0, 1, 40, 150}[seed%4])
		x := text(t, s)
		l, failed, k := run(t, s)
		want, err := trace.Text(l)
		if err != api.OK {
			t.Fatal(err)
		}
		for range 2 {
			expect(t, [][2]string{{say(bench.Run(x)), say(want, failed, "{ok 0}")}})
		}
		expect(t, [][2]string{
			{say(bench.Judge(x)), say(len(l), k.Waiting(), "{ok 0}")},
			{say(bench.Compare(x, want)), "-1 {ok 0}"},
			{say(bench.Compare(x, want+"exited 9")), fmt.Sprintf("0 {range %d}", len(want))},
			{say(bench.Compare(x, want+"fly")), fmt.Sprintf("0 {form %d}", len(want))},
			{say(bench.Compare(x, want+"exited 8\nexited 8")), say(len(l), "{ok 0}")},
		})
		if n, _ := model.Allowed(l); n != len(l) {
			t.Fatal(l, n)
		}
		for i := 0; i < len(l); i += 1 + len(l)/6 {
			short, _ := trace.Text(l[:i])
			other := slices.Clone(l)
			other[i] = api.Outcome{Kind: api.Exited, Proc: 8}
			changed, _ := trace.Text(other)
			expect(t, [][2]string{{say(bench.Compare(x, short)), say(i, "{ok 0}")}, {say(bench.Compare(x, changed)), say(i, "{ok 0}")}})
		}
	}
}

// P44.1: nearly the longest trace that there can be; no experiment has one that is too long.

func TestLong(t *testing.T) {
	s := api.Script{Config: configs[0], Commands: []api.Command{{Kind: api.DoSpawn, Proc: 1}, {Kind: api.DoRounds, A: 3}, {Kind: api.DoMap, Proc: 1, A: 0, B: 63}}}
	write := api.Command{Kind: api.DoWrite, Proc: 1, A: 60, B: 7, Value: math.MaxUint64}
	s.Commands = append(s.Commands, write, api.Command{Kind: api.DoRounds, A: 5})
	for len(s.Commands) < 400 {
		s.Commands = append(s.Commands, write)
	}
	l, _, _ := run(t, s)
	want, err := trace.Text(l)
	if len(want) < 15000 || err != api.OK {
		t.Fatal(len(want), err)
	}
	expect(t, [][2]string{{say(bench.Run(text(t, s))), say(want, "0 {ok 0}")}, {say(bench.Judge(text(t, s))), say(len(l), "[] {ok 0}")}})
}

// P44.3, P44.9

func TestInsert(t *testing.T) {
	read := api.Command{Kind: api.DoRead, Proc: 1, A: 3}
	for seed := range uint64(12) {
		n := []int{0, 1, 40, 399}[seed%4]
		s := some(seed, n)
		x := text(t, s)
		l, _, _ := run(t, s)
		for _, at := range []int{-1, 0, 1, n / 2, n, n + 1, math.MinInt, math.MaxInt} {
			want := " {range 0}"
			if at >= 0 && at <= n {
				want = say(text(t, api.Script{Config: s.Config, Commands: slices.Insert(slices.Clone(s.Commands), at, read)}), "{ok 0}")
			}
			expect(t, [][2]string{{say(bench.Insert(x, at, read)), want}})
			if at < 0 || at > n {
				expect(t, [][2]string{{say(bench.Insert(x, at, api.Command{})), " {range 0}"}})
				continue
			}
			expect(t, [][2]string{{say(bench.Insert(x, at, api.Command{})), " {kind 0}"}, {say(bench.Insert(x, at, api.Command{Kind: api.DoRead, Proc: 9})), " {range 0}"}, {say(bench.Insert(x, at, api.Command{Kind: api.DoExit, Proc: 1, A: 1})), " {form 0}"}})
			want, _ = trace.Text(l)
			for _, c := range []api.Command{{Kind: api.DoPick, Proc: 8}, {Kind: api.DoComplete, A: 31}} {
				more, f := bench.Insert(x, at, c)
				got, _, f2 := bench.Run(more)
				expect(t, [][2]string{{say(got, f, f2), say(want, "{ok 0} {ok 0}")}})
			}
		}
	}
	full := text(t, some(1, 400))
	expect(t, [][2]string{
		{say(bench.Insert(full, 5, read)), " {full 0}"},
		{say(bench.Insert(full, 5, api.Command{})), " {kind 0}"},
		{say(bench.Insert(full, 401, read)), " {range 0}"},
	})
}

// has says whether a trace has an outcome of a kind of a process.
func has(l []api.Outcome, kind, proc int) bool {
	return slices.ContainsFunc(l, func(o api.Outcome) bool { return o.Kind == kind && o.Proc == proc })
}

// P44.4, P44.8

func TestShrink(t *testing.T) {
	for seed := range uint64(18) {
		s := some(seed, []int{1, 30, 60}[seed%3])
		x := text(t, s)
		l, _, _ := run(t, s)
		for kind := 1; kind <= 11; kind++ {
			for proc := 1; proc <= 3; proc++ {
				if !has(l, kind, proc) {
					expect(t, [][2]string{{say(bench.Shrink(x, kind, proc)), " {missing 0}"}})
					continue
				}
				rest := s
				for i := len(s.Commands) - 1; i >= 0; i-- {
					less, _ := script.Without(rest, i)
					if l, _, _ := run(t, less); has(l, kind, proc) {
						rest = less
					}
				}
				small := text(t, rest)
				expect(t, [][2]string{{say(bench.Shrink(x, kind, proc)), say(small, "{ok 0}")}})
				again, f := bench.Shrink(small, kind, proc)
				if f.Err != api.OK || len(again) > len(small) {
					t.Fatal(small, again, f)
				}
			}
		}
		expect(t, [][2]string{{say(bench.Shrink(x, api.Refused, 8)), " {missing 0}"}, {say(bench.Shrink(x, api.Mapped, 8)), " {missing 0}"}})
		for _, n := range []int{0, 12, -1, math.MinInt, math.MaxInt} {
			expect(t, [][2]string{{say(bench.Shrink(x, n, 99)), " {kind 0}"}})
		}
		for _, n := range []int{0, 9, -1, math.MinInt, math.MaxInt} {
			expect(t, [][2]string{{say(bench.Shrink(x, api.Killed, n)), " {range 0}"}})
		}
	}
}

// P44.5, P44.10

func TestSettle(t *testing.T) {
	for seed := range uint64(40) {
		s := some(seed, []int{0, 5, 40, 150}[seed%4])
		x := text(t, s)
		_, _, k := run(t, s)
		rounds := 0
		for len(k.Waiting()) > 0 {
			k.Step(api.Command{Kind: api.DoRounds, A: 1})
			rounds++
		}
		for _, most := range []int{0, 1, 2, rounds - 1, rounds, rounds + 1, 1000} {
			want := say(min(rounds, most), most >= rounds, "{ok 0}")
			if most < 0 {
				want = "0 false {range 0}"
			}
			expect(t, [][2]string{{say(bench.Settle(x, most)), want}})
		}
		for _, most := range []int{-1, 1001, math.MinInt, math.MaxInt} {
			expect(t, [][2]string{{say(bench.Settle(x, most)), "0 false {range 0}"}})
		}
	}
}

// P44.5, P44.7

func TestNeedless(t *testing.T) {
	for seed := range uint64(30) {
		s := some(seed, []int{0, 1, 30, 90}[seed%4])
		l, _, _ := run(t, s)
		var want []int
		for i := range s.Commands {
			less, _ := script.Without(s, i)
			if other, _, _ := run(t, less); slices.Equal(l, other) {
				want = append(want, i)
			}
			part, _ := script.Cut(s, 0, i)
			if begin, _, _ := run(t, part); !slices.Equal(begin, l[:len(begin)]) {
				t.Fatal(s, i)
			}
		}
		for range 3 {
			expect(t, [][2]string{{say(bench.Needless(text(t, s))), say(want, "{ok 0}")}})
		}
	}
}

// The examples of the chapter.

func TestExamples(t *testing.T) {
	x := head + "spawn 1\nrounds 2\nmap 1 3..7\nwrite 1 3 0 9\nrounds 3\nread 1 3 0\n"
	want := "queued 1 1\nspawned 1 1\nmapped 1 3..7\nqueued 1 2\nwritten 1 3 0 9 2\nread 1 3 0 9 0\n"
	expect(t, [][2]string{
		{say(bench.Run(x)), say(want, "0 {ok 0}")},
		{say(bench.Judge(x)), "6 [] {ok 0}"},
		{say(bench.Compare(x, want)), "-1 {ok 0}"},
		{say(bench.Compare(x, "")), "0 {ok 0}"},
		{say(bench.Shrink(x, api.Written, 1)), head + "spawn 1\nrounds 2\nmap 1 3..7\nwrite 1 3 0 9\nrounds 3\n {ok 0}"},
		{say(bench.Needless(x)), "[] {ok 0}"},
		{say(bench.Settle(x, 5)), "0 true {ok 0}"},
		{say(bench.Settle(head+"spawn 1\nrounds 2\nmap 1 3..7\nwrite 1 3 0 9\n", 5)), "3 true {ok 0}"},
		{say(bench.Settle(head+"spawn 1\nrounds 2\nmap 1 3..7\nwrite 1 3 0 9\n", 2)), "2 false {ok 0}"},
		{say(bench.Insert(x, 7, api.Command{Kind: api.DoRead, Proc: 1, A: 3})), " {range 0}"},
		{say(bench.Insert(x, 0, api.Command{})), " {kind 0}"},
		{say(bench.Shrink(x, api.Killed, 1)), " {missing 0}"},
		{say(bench.Shrink(x, 12, 1)), " {kind 0}"},
		{say(bench.Settle(x, -1)), "0 false {range 0}"},
	})
}
