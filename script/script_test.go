package script_test

import (
	"fmt"
	"math"
	"math/rand/v2"
	"slices"
	"strings"
	"testing"

	"headgate/api"
	"headgate/script"
	"headgate/zone"
)

// say writes values with blanks between them, errors by their names.
func say(l ...any) string { return strings.TrimSuffix(fmt.Sprintln(l...), "\n") }

// expect compares what calls gave with what they should give.
func expect(t *testing.T, l [][2]string) {
	t.Helper()
	for i, c := range l {
		if c[0] != c[1] {
			t.Fatalf("case %d: %.700q, not %.700q", i, c[0], c[1])
		}
	}
}

// config is the configuration of the examples, head its row.
var config = api.Config{Frames: 40, Low: 8, Slots: 8, Cap: 2, Queue: 4, Min: 3, LowMark: 6, High: 9, MapCap: 64}

const head = "machine 40 8 8 2 4 3 6 9 64\n"

func cmd(kind, proc, a, b int, value uint64) api.Command {
	return api.Command{Kind: kind, Proc: proc, A: a, B: b, Value: value}
}

// field says which numbers a field of a command may have; nothing if it must be zero.
type field struct{ low, high int }

// table says what each kind uses, its name, and how it is written.
var table = map[int]struct {
	proc, a, b field
	value      bool
	form       string
}{
	1: {proc: field{1, 8}, form: "spawn %d"}, 2: {field{1, 8}, field{0, 63}, field{0, 63}, false, "map %d %d..%d"}, 3: {field{1, 8}, field{0, 63}, field{0, 63}, false, "unmap %d %d..%d"},
	4: {field{1, 8}, field{0, 63}, field{0, 7}, false, "read %d %d %d"}, 5: {field{1, 8}, field{0, 63}, field{0, 7}, true, "write %d %d %d %d"}, 6: {proc: field{1, 8}, a: field{1, 8}, form: "fork %d %d"}, 7: {proc: field{1, 8}, form: "exit %d"},
	8: {a: field{1, 3}, form: "hoard %d"}, 9: {proc: field{0, 8}, form: "pick %d"}, 10: {a: field{0, 31}, form: "complete %d"}, 11: {a: field{1, 100}, form: "rounds %d"}, 12: {proc: field{1, 8}, form: "kill %d"},
}

// used says whether a kind uses a field.
func used(f field) bool { return f != field{} }

// out says whether a number is not from low to high.
func out(f field, n int) bool { return used(f) && (n < f.low || n > f.high) }

// one says in other words what is wrong with a command.
func one(c api.Command) api.Errno {
	k, ok := table[c.Kind]
	switch {
	case !ok:
		return api.ErrKind
	case out(k.proc, c.Proc), out(k.a, c.A), out(k.b, c.B), c.Kind == 6 && c.A == c.Proc, (c.Kind == 2 || c.Kind == 3) && c.A > c.B:
		return api.ErrRange
	case !used(k.proc) && c.Proc != 0, !used(k.a) && c.A != 0, !used(k.b) && c.B != 0, !k.value && c.Value != 0:
		return api.ErrForm
	}
	return api.OK
}

// text writes a valid command.
func text(c api.Command) string {
	k := table[c.Kind]
	var l []any
	for _, f := range []struct {
		used bool
		n    any
	}{{used(k.proc), c.Proc}, {used(k.a), c.A}, {used(k.b), c.B}, {k.value, c.Value}} {
		if f.used {
			l = append(l, f.n)
		}
	}
	return fmt.Sprintf(k.form, l...) + "\n"
}

// commands returns n valid commands, always the same ones for a number.
func commands(seed uint64, n int) (l []api.Command) {
	r := rand.New(rand.NewPCG(seed, 36))
	pick := func(f field) int {
		if !used(f) {
			return 0
		}
		return []int{f.low, f.high, f.low + r.IntN(f.high-f.low+1)}[r.IntN(3)]
	}
	for len(l) < n {
		kind := 1 + r.IntN(12)
		k := table[kind]
		c := cmd(kind, pick(k.proc), pick(k.a), pick(k.b), 0)
		if k.value {
			c.Value = []uint64{0, 1, math.MaxUint64, r.Uint64()}[r.IntN(4)]
		}
		if one(c) == api.OK {
			l = append(l, c)
		}
	}
	return l
}

var noScript = say(api.Script{})

// P36.1, P36.2

func TestOneRow(t *testing.T) {
	numbers := []int{math.MinInt, -1, 0, 1, 2, 3, 4, 7, 8, 9, 31, 32, 63, 64, 100, 101, 1 << 32, 1<<32 + 1, math.MaxInt}
	for kind := -1; kind < 15; kind++ {
		for _, proc := range numbers {
			for _, a := range numbers {
				for _, b := range numbers {
					for _, v := range []uint64{0, math.MaxUint64} {
						c := cmd(kind, proc, a, b, v)
						want, row := one(c), ""
						if want == api.OK {
							row = text(c)
						}
						if err := script.One(c); err != want {
							t.Fatal(c, err, want)
						}
						if want == api.OK || v == 0 && a == b {
							if s, err := script.Row(c); s != row || err != want {
								t.Fatal(c, s, err)
							}
						}
					}
				}
			}
		}
	}
	for _, kind := range []int{math.MinInt, math.MaxInt, 1<<32 + 1} {
		expect(t, [][2]string{{say(script.One(cmd(kind, 99, 0, 0, 0))), "kind"}, {say(script.Row(cmd(kind, 1, 0, 0, 0))), " kind"}})
	}
}

// P36.1

func TestCheck(t *testing.T) {
	low := config
	low.Min = 2
	for _, c := range []struct {
		s    api.Script
		want string
	}{
		{api.Script{Config: config}, "{ok 0}"},
		{api.Script{Config: config, Commands: commands(1, 400)}, "{ok 0}"},
		{api.Script{Config: config, Commands: commands(1, 401)}, "{long 400}"},
		{api.Script{Config: config, Commands: make([]api.Command, 401)}, "{long 400}"},
		{api.Script{Config: config, Commands: make([]api.Command, 400)}, "{kind 0}"},
		{api.Script{Commands: make([]api.Command, 401)}, "{range 0}"},
		{api.Script{Config: low, Commands: make([]api.Command, 1)}, "{order 0}"},
		{api.Script{Config: config, Commands: append(commands(2, 7), cmd(2, 2, 7, 3, 0), cmd(13, 0, 0, 0, 0))}, "{range 7}"},
		{api.Script{Config: config, Commands: append(commands(2, 399), cmd(7, 1, 1, 0, 0))}, "{form 399}"},
	} {
		f := script.Check(c.s)
		expect(t, [][2]string{{say(f), c.want}})
		if f.Err == api.OK {
			continue
		}
		for _, n := range []int{0, -1} {
			expect(t, [][2]string{
				{say(script.Text(c.s)), say("", f.Err)},
				{say(script.Cut(c.s, n, n)), say(noScript, f.Err)},
				{say(script.Without(c.s, n)), say(noScript, f.Err)},
				{say(script.Counts(c.s)), say("[]", f.Err)},
			})
		}
	}
}

// P36.2, P36.4, P36.5, P36.6, P36.7, P36.8

func TestScripts(t *testing.T) {
	for seed := range uint64(60) {
		n := []int{0, 1, 2, 20, 400}[seed%5]
		s := api.Script{Config: config, Commands: commands(seed, n)}
		before := say(s)
		want, counts := head, make([]int, 12)
		for _, c := range s.Commands {
			row, _ := script.Row(c)
			want += row
			counts[c.Kind-1]++
		}
		expect(t, [][2]string{{say(script.Text(s)), want + " ok"}, {say(script.Counts(s)), say(counts, "ok")}, {say(script.Parse(want)), say(s, "{ok 0}")}})
		for from := -1; from <= n+1; from += 1 + n/9 {
			for to := -1; to <= n+1; to += 1 + n/7 {
				want := noScript + " range"
				if from >= 0 && from <= to && to <= n {
					want = say(api.Script{Config: config, Commands: s.Commands[from:to]}, "ok")
				}
				c, err := script.Cut(s, from, to)
				expect(t, [][2]string{{say(c, err), want}})
				for i := range c.Commands {
					c.Commands[i].Kind = 77
				}
			}
			want := noScript + " range"
			if from >= 0 && from < n {
				want = say(api.Script{Config: config, Commands: slices.Concat(s.Commands[:from], s.Commands[from+1:])}, "ok")
			}
			c, err := script.Without(s, from)
			expect(t, [][2]string{{say(c, err), want}})
			for i := range c.Commands {
				c.Commands[i].Kind = 77
			}
		}
		for _, x := range []int{math.MinInt, math.MaxInt} {
			expect(t, [][2]string{{say(script.Cut(s, x, 0)), noScript + " range"}, {say(script.Cut(s, 0, x)), noScript + " range"}, {say(script.Without(s, x)), noScript + " range"}})
		}
		expect(t, [][2]string{{say(s), before}})
	}
}

// P36.3

func TestParseFaults(t *testing.T) {
	big := fmt.Sprint(1<<40 + 1)
	long := strings.Repeat("pick 0\n", 400)
	for i, c := range [][2]string{
		{"", "{missing 0}"}, {"; spawn\n \n", "{missing 0}"}, {"machine A", "{form 8}"}, {strings.Repeat(" ", 1001), "{long 0}"}, {strings.Repeat("\n", 20001), "{long 20000}"},
		{"spawn 1", "{name 0}"}, {"5", "{name 0}"}, {"3..5", "{name 0}"}, {"  machines 1", "{name 2}"}, {"machine 40 8 8 2 4 3 6 9", "{form 0}"}, {"machine", "{form 0}"}, {"\n machine 40 8 8 2 4 3 6 9 64 1", "{form 2}"}, {"machine 40 8 8 2 4 3 6 9 -64", "{form 0}"}, {"machine 40 8 8 2 4 3 6 9 1..64", "{form 0}"}, {"machine 40 8 8 2 4 3 6 9 x", "{form 0}"},
		{"machine " + big + " 8 8 2 4 3 6 9 x", "{form 0}"}, {"machine 40 8 8 2 4 3 6 9 " + big, "{range 0}"}, {"machine 40 8 8 2 4 2 6 9 " + big, "{range 0}"}, {"machine 40 8 8 2 4 2 6 9 18446744073709551615", "{range 0}"}, {"machine 40 8 8 2 4 2 6 9 64", "{order 0}"}, {"machine 300 8 8 2 4 2 6 9 64", "{range 0}"}, {"machine 40 8 8 2 4 2 6 9 64\nfly", "{order 0}"},
		{"machine 40 8 8 2 4 3 6 1099511627776 64", "{order 0}"}, {"machine 40 8 8 2 4 3 6 1099511627777 64", "{range 0}"}, {"machine 40 8 8 2 4 3 1099511627777 9 64", "{range 0}"}, {"machine 40 8 8 2 4 1099511627777 6 9 64", "{range 0}"},
		{head + "machine 40 8 8 2 4 3 6 9 64", "{name 28}"}, {head + "fly 1", "{name 28}"}, {head + "spawns 1", "{name 28}"}, {head + "7 1", "{name 28}"}, {head + "1..2 1", "{name 28}"}, {head + " ,spawn 1; x\n  fly 1", "{name 43}"},
		{head + "spawn", "{form 28}"}, {head + "spawn 1 2", "{form 28}"}, {head + "spawn -1", "{form 28}"}, {head + "spawn x", "{form 28}"}, {head + "spawn 1..1", "{form 28}"}, {head + "spawn 9", "{range 28}"}, {head + "spawn 0", "{range 28}"}, {head + "spawn " + big, "{range 28}"},
		{head + "map 1", "{form 28}"}, {head + "map 1 2 3", "{form 28}"}, {head + "map 1 -2", "{form 28}"}, {head + "map 1..2 2", "{form 28}"}, {head + "map 1 x", "{form 28}"}, {head + "map 1 5..3", "{form 34}"}, {head + "map 1 64", "{range 28}"}, {head + "map 1 5..64", "{range 28}"}, {head + "map 1 5.." + big, "{range 28}"}, {head + "map 9 -5", "{form 28}"}, {head + "map 0 5", "{range 28}"}, {head + "unmap 1 " + big + ".." + big, "{range 28}"}, {head + "unmap 1 1 1", "{form 28}"},
		{head + "read 1 2", "{form 28}"}, {head + "read 1 2 3 4", "{form 28}"}, {head + "read 1 2..2 3", "{form 28}"}, {head + "read 1 2 8", "{range 28}"}, {head + "read 1 64 7", "{range 28}"}, {head + "read 1 " + big + " 7", "{range 28}"},
		{head + "write 1 2 3", "{form 28}"}, {head + "write 1 2 3 4 5", "{form 28}"}, {head + "write 1 2 3 -4", "{form 28}"}, {head + "write 1 2 3 4..5", "{form 28}"}, {head + "write 1 2 " + big + " 4", "{range 28}"}, {head + "write 1 2 3 18446744073709551616", "{form 40}"},
		{head + "fork 1 1", "{range 28}"}, {head + "fork 1 9", "{range 28}"}, {head + "fork 1", "{form 28}"}, {head + "hoard 0", "{range 28}"}, {head + "hoard 4", "{range 28}"}, {head + "hoard", "{form 28}"}, {head + "pick", "{form 28}"}, {head + "pick 9", "{range 28}"}, {head + "complete 32", "{range 28}"}, {head + "complete 1 1", "{form 28}"}, {head + "rounds 0", "{range 28}"}, {head + "rounds 101", "{range 28}"}, {head + "kill 9", "{range 28}"}, {head + "exit", "{form 28}"},
		{head + long + "pick 0", "{long 2828}"}, {head + long + "fly", "{name 2828}"}, {head + long + "pick", "{long 2828}"}, {head + long + "pick A", "{form 2833}"},
	} {
		if got := say(script.Parse(c[0])); got != noScript+" "+c[1] {
			t.Errorf("%d %.60q: %.300s", i, c[0], got)
		}
	}
}

func TestParse(t *testing.T) {
	s, f := script.Parse(" ; x\n machine, 0x28 +8 8 2 4 3 6 9 64\n\n spawn +1\nwrite 1 0x3f 7 0xffffffffffffffff\nmap 1 5\nmap 1 5..5\nunmap 8 0..63 ; y\npick 0\n")
	want := api.Script{Config: config, Commands: []api.Command{cmd(1, 1, 0, 0, 0), cmd(5, 1, 63, 7, math.MaxUint64), cmd(2, 1, 5, 5, 0), cmd(2, 1, 5, 5, 0), cmd(3, 8, 0, 63, 0), cmd(9, 0, 0, 0, 0)}}
	expect(t, [][2]string{{say(s, f), say(want, "{ok 0}")}})
	again, _ := script.Text(s)
	expect(t, [][2]string{{say(script.Parse(again)), say(want, "{ok 0}")}})
	if _, err := zone.Fit(s.Config); err != api.OK {
		t.Error(err)
	}
}

// The examples of the chapter.

func TestExamples(t *testing.T) {
	spawn := api.Script{Config: config, Commands: []api.Command{cmd(1, 1, 0, 0, 0)}}
	expect(t, [][2]string{
		{say(script.Row(cmd(api.DoMap, 2, 3, 7, 0))), "map 2 3..7\n ok"},
		{say(script.Row(cmd(api.DoWrite, 1, 5, 0, 9))), "write 1 5 0 9\n ok"},
		{say(script.Row(cmd(api.DoPick, 0, 0, 0, 0))), "pick 0\n ok"},
		{say(script.Row(cmd(api.DoRounds, 0, 5, 0, 0))), "rounds 5\n ok"},
		{say(script.One(cmd(api.DoMap, 2, 7, 3, 0))), "range"},
		{say(script.One(cmd(api.DoFork, 1, 1, 0, 0))), "range"},
		{say(script.One(cmd(api.DoExit, 1, 1, 0, 0))), "form"},
		{say(script.One(cmd(13, 1, 0, 0, 0))), "kind"},
		{say(script.One(cmd(api.DoRead, 1, 64, 0, 0))), "range"},
		{say(script.Parse("machine 40 8 8 2 4 3 6 9 64\nspawn 1")), say(spawn, "{ok 0}")},
	})
}
