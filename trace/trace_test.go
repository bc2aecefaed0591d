package trace_test

import (
	"fmt"
	"math"
	"math/rand/v2"
	"slices"
	"strings"
	"testing"

	"headgate/api"
	"headgate/trace"
)

// say writes values with blanks between them, errors by their names.
func say(l ...any) string { return strings.TrimSuffix(fmt.Sprintln(l...), "\n") }

// expect compares what calls gave with what they should give.
func expect(t *testing.T, l [][2]string) {
	t.Helper()
	for i, c := range l {
		if c[0] != c[1] {
			t.Fatalf("case %d: %.700q, not %.700q", i, c[0], c[1])
		}
	}
}

// out makes an outcome: kind, process, other, page, word, ticket, value.
func out(kind, proc, other, page, word int, ticket, value uint64) api.Outcome {
	return api.Outcome{Kind: kind, Proc: proc, Other: other, Page: page, Word: word, Ticket: ticket, Value: value}
}

// uses says which fields a kind uses: o, p, w, t (a ticket), z (a ticket or 0), v (a value), e (an error), r (pages).
var uses = map[int]string{1: "r", 2: "r", 3: "pwvz", 4: "pwvz", 5: "ot", 6: "t", 7: "", 8: "pw", 9: "t", 10: "z", 11: "te"}

// check says in other words what is wrong with an outcome.
func check(o api.Outcome) api.Errno {
	u, ok := uses[o.Kind]
	if !ok {
		return api.ErrKind
	}
	has := func(s string) bool { return strings.ContainsAny(u, s) }
	bad := o.Proc < 1 || o.Proc > 8
	bad = bad || has("rp") && (o.Page < 0 || o.Page > 63) || has("r") && (o.Other < o.Page || o.Other > 63) || has("w") && (o.Word < 0 || o.Word > 7)
	bad = bad || has("o") && (o.Other < 1 || o.Other > 8 || o.Other == o.Proc) || has("tz") && o.Ticket > 1<<40 || has("t") && o.Ticket == 0 || has("e") && (o.Value < 1 || o.Value > 17)
	if bad {
		return api.ErrRange
	}
	if !has("rp") && o.Page != 0 || !has("ro") && o.Other != 0 || !has("w") && o.Word != 0 || !has("tz") && o.Ticket != 0 || !has("ve") && o.Value != 0 {
		return api.ErrForm
	}
	return api.OK
}

// text writes a valid outcome.
func text(o api.Outcome) string {
	name := []string{"", "mapped", "unmapped", "read", "written", "forked", "spawned", "exited", "segv", "queued", "killed", "refused"}[o.Kind]
	s := fmt.Sprint(name, " ", o.Proc)
	switch o.Kind {
	case 1, 2:
		s += fmt.Sprintf(" %d..%d", o.Page, o.Other)
	case 3, 4:
		s += fmt.Sprintf(" %d %d %d %d", o.Page, o.Word, o.Value, o.Ticket)
	case 5:
		s += fmt.Sprintf(" %d %d", o.Other, o.Ticket)
	case 6, 9, 10:
		s += fmt.Sprintf(" %d", o.Ticket)
	case 8:
		s += fmt.Sprintf(" %d %d", o.Page, o.Word)
	case 11:
		s += fmt.Sprintf(" %d %d", o.Value, o.Ticket)
	}
	return s + "\n"
}

// some returns a trace that is mostly regular, always the same one for a number.
func some(seed uint64, n int) []api.Outcome {
	r := rand.New(rand.NewPCG(seed, 39))
	waiting := map[int]uint64{}
	next := uint64(1)
	var l []api.Outcome
	for len(l) < n {
		p := 1 + r.IntN(5)
		ticket, waits := waiting[p]
		kind := 1 + r.IntN(11)
		o := api.Outcome{Kind: kind, Proc: p, Page: r.IntN(64), Word: r.IntN(8), Value: []uint64{0, 5, math.MaxUint64}[r.IntN(3)]}
		switch {
		case kind == 9:
			if waits && r.IntN(20) > 0 {
				continue
			}
			if r.IntN(40) > 0 {
				next += 1 + r.Uint64N(2)
			}
			o.Ticket = next
			waiting[p] = next
		case strings.ContainsAny(uses[kind], "tz") && (waits || r.IntN(60) == 0):
			o.Ticket = max(1, ticket+r.Uint64N(40)/39)
			delete(waiting, p)
		case strings.Contains(uses[kind], "t"):
			continue
		}
		o.Other = min(63, o.Page+r.IntN(9))
		if kind == 5 {
			o.Other = p%8 + 1
		}
		if kind == 11 {
			o.Value = 1 + r.Uint64N(17)
		}
		u := uses[kind]
		if !strings.ContainsAny(u, "rp") {
			o.Page = 0
		}
		if !strings.ContainsAny(u, "ro") {
			o.Other = 0
		}
		if !strings.Contains(u, "w") {
			o.Word = 0
		}
		if !strings.ContainsAny(u, "ve") {
			o.Value = 0
		}
		l = append(l, o)
	}
	return l
}

// end returns where a request ends, -1 for nowhere.
func end(l []api.Outcome, from int) int {
	for i := from + 1; i < len(l); i++ {
		if l[i].Ticket == l[from].Ticket && l[i].Proc == l[from].Proc && l[i].Kind != l[from].Kind {
			return i
		}
	}
	return -1
}

// isRegular says by the definition whether a trace is regular.
func isRegular(l []api.Outcome) bool {
	ends := map[int]bool{}
	last := uint64(0)
	until := map[int]int{}
	for i, o := range l {
		if o.Kind != api.Queued {
			continue
		}
		if before, waits := until[o.Proc]; o.Ticket <= last || waits && (before < 0 || before > i) {
			return false
		}
		last, until[o.Proc] = o.Ticket, end(l, i)
		ends[end(l, i)] = true
	}
	for i, o := range l {
		if o.Ticket != 0 && o.Kind != api.Queued && !ends[i] {
			return false
		}
	}
	return true
}

var far = []int{math.MinInt, -1, 9, 64, 1 << 32, math.MaxInt}

// P39.1

func TestCheck(t *testing.T) {
	numbers := []int{math.MinInt, -1, 0, 1, 2, 7, 8, 9, 63, 64, 1 << 32, math.MaxInt}
	values := []uint64{0, 1, 17, 18, 1 << 40, 1<<40 + 1, math.MaxUint64}
	for kind := -1; kind < 14; kind++ {
		for _, proc := range []int{-1, 0, 1, 2, 8, 9, math.MaxInt} {
			for _, other := range numbers {
				for _, page := range numbers {
					o := out(kind, proc, other, page, (page^other)&15, values[(page+other)&0x7fffffff%7], values[(other-page)&0x7fffffff%7])
					for range 2 {
						want := check(o)
						if err, at := trace.Check([]api.Outcome{o}); err != want || at != 0 {
							t.Fatal(o, err, want)
						}
						u := uses[kind]
						if !strings.ContainsAny(u, "ve") {
							o.Value = 0
						}
						if !strings.ContainsAny(u, "tz") {
							o.Ticket = 0
						}
						if !strings.Contains(u, "w") {
							o.Word = 0
						}
						if !strings.ContainsAny(u, "ro") {
							o.Other = 0
						}
					}
				}
			}
		}
	}
	for _, v := range values {
		for _, ticket := range values {
			for kind := 1; kind <= 11; kind++ {
				for word := -1; word < 10; word++ {
					o := out(kind, 1, 2, 2, word, ticket, v)
					if err, _ := trace.Check([]api.Outcome{o}); err != check(o) {
						t.Fatal(o, err)
					}
				}
			}
		}
	}
	for _, kind := range []int{math.MinInt, math.MaxInt, 1<<32 + 1} {
		bad(t, []api.Outcome{out(7, 1, 0, 0, 0, 0, 0), out(kind, 99, 0, 0, 0, 0, 0)}, "kind 1")
	}
	bad(t, make([]api.Outcome, 5001), "full 0")
	bad(t, append(slices.Repeat([]api.Outcome{out(7, 1, 0, 0, 0, 0, 0)}, 4999), out(7, 1, 1, 0, 0, 0, 0)), "form 4999")
	bad(t, []api.Outcome{out(7, 9, 1, 0, 0, 0, 0), out(0, 9, 1, 0, 0, 0, 0)}, "range 0")
	expect(t, [][2]string{{say(trace.Check(nil)), "ok 0"}, {say(trace.Check(some(1, 5000))), "ok 0"}})
}

// bad checks that all functions return an error.
func bad(t *testing.T, l []api.Outcome, want string) {
	t.Helper()
	e := strings.Fields(want)[0]
	expect(t, [][2]string{
		{say(trace.Check(l)), want},
		{say(trace.Text(l)), " " + e},
		{say(trace.Of(l, 99)), "[] " + e},
		{say(trace.Count(l)), "[] " + e},
		{say(trace.Regular(l)), "0 " + e},
		{say(trace.Waits(l)), "[] " + e},
		{say(trace.Waiting(l)), "[] " + e},
	})
}

// P39.2, P39.3, P39.4, P39.5, P39.6, P39.7, P39.8, P39.9

func TestTraces(t *testing.T) {
	regular := 0
	for seed := range uint64(400) {
		l := some(seed, []int{0, 1, 3, 10, 40}[seed%5])
		before := say(l)
		s, counts := "", make([]int, 11)
		for _, o := range l {
			s += text(o)
			counts[o.Kind-1]++
		}
		expect(t, [][2]string{{say(trace.Text(l)), s + " ok"}, {say(trace.Parse(s)), say(l, "{ok 0}")}, {say(trace.Count(l)), say(counts, "ok")}})
		all := 0
		for p := 1; p <= 8; p++ {
			of := slices.DeleteFunc(slices.Clone(l), func(o api.Outcome) bool { return o.Proc != p })
			all += len(of)
			expect(t, [][2]string{{say(trace.Of(l, p)), say(of, "ok")}})
			if n, _ := trace.Regular(of); isRegular(l) && n != len(of) {
				t.Fatal(l, p, n)
			}
		}
		if all != len(l) {
			t.Fatal(l, all)
		}
		for _, p := range append([]int{0}, far...) {
			expect(t, [][2]string{{say(trace.Of(l, p)), "[] range"}})
		}
		n := 0
		for n < len(l) && isRegular(l[:n+1]) {
			n++
		}
		expect(t, [][2]string{{say(trace.Regular(l)), say(n, "ok")}})
		if n < len(l) {
			expect(t, [][2]string{{say(trace.Waits(l)), "[] order"}, {say(trace.Waiting(l)), "[] order"}})
			l = l[:n]
		} else {
			regular++
			expect(t, [][2]string{{say(l), before}})
		}
		waits(t, l)
	}
	if regular < 100 {
		t.Error(regular)
	}
}

// waits checks Waits and Waiting of a regular trace.
func waits(t *testing.T, l []api.Outcome) {
	t.Helper()
	var want []api.Wait
	var open []uint64
	for i, o := range l {
		if o.Kind != api.Queued {
			continue
		}
		want = append(want, api.Wait{Ticket: o.Ticket, Proc: o.Proc, From: i, To: end(l, i)})
		if end(l, i) < 0 {
			open = append(open, o.Ticket)
		}
	}
	expect(t, [][2]string{{say(trace.Waits(l)), say(want, "ok")}, {say(trace.Waiting(l)), say(open, "ok")}})
	less := slices.DeleteFunc(slices.Clone(l), func(o api.Outcome) bool { return o.Ticket == 0 })
	got, _ := trace.Waits(less)
	if len(got) != len(want) {
		t.Fatal(l, got, want)
	}
	for i, w := range got {
		if w.Ticket != want[i].Ticket || w.Proc != want[i].Proc || (w.To < 0) != (want[i].To < 0) {
			t.Fatal(l, got, want)
		}
	}
}

// P39.2

func TestText(t *testing.T) {
	long := slices.Repeat([]api.Outcome{out(7, 1, 0, 0, 0, 0, 0)}, 2222)
	s, err := trace.Text(long)
	if len(s) != 19998 || err != api.OK {
		t.Error(len(s), err)
	}
	expect(t, [][2]string{{say(trace.Text(append(long, long[0]))), " long"}})
	back, f := trace.Parse(s)
	expect(t, [][2]string{{say(back, f), say(long, "{ok 0}")}})
}

func TestParseFaults(t *testing.T) {
	for _, c := range [][2]string{
		{"fly 1", "form 0"}, {"exited 9", "range 0"}, {"mapped 1 3", "form 0"}, {"segv 1 64 0", "range 0"}, {"refused 1 18 1", "range 0"}, {"exited -1", "form 0"},
		{"exited", "form 0"}, {"exited 1 1", "form 0"}, {"exited 1..1", "form 0"}, {"exited x", "form 0"}, {"exited 1001", "form 0"}, {"exited 1000", "range 0"}, {"exited 0", "range 0"}, {"5 1", "form 0"}, {"1..2 1", "form 0"}, {"killed 1", "form 0"}, {"exited 1\n; x\n  exited 9", "range 15"}, {"exited 1\n ,exitd 1", "form 11"}, {"exited 1\nA", "form 9"}, {"exited 18446744073709551616", "form 7"},
		{"mapped 1 3..2", "form 9"}, {"mapped 1 3..64", "range 0"}, {"mapped 1 3..1001", "form 0"}, {"mapped 1 3..1000", "range 0"}, {"mapped 1 1001..1001", "form 0"}, {"mapped 1 3..4 5", "form 0"}, {"unmapped 1 x", "form 0"}, {"unmapped 9 1..2", "range 0"},
		{"read 1 2 3 4", "form 0"}, {"read 1 2 3 4 5 6", "form 0"}, {"read 1 1001 3 4 5", "form 0"}, {"read 1 2 1001 4 5", "form 0"}, {"read 1 2 8 4 5", "range 0"}, {"read 1 2 3 4 1099511627777", "range 0"}, {"read 1 2 3 -4 5", "form 0"}, {"read 1 2 3 4..4 5", "form 0"}, {"written 1 2 3 4 5..6", "form 0"}, {"written 1 -2 3 4 5", "form 0"},
		{"forked 1 1 1", "range 0"}, {"forked 1 2 0", "range 0"}, {"forked 1 9 1", "range 0"}, {"forked 1 1001 1", "form 0"}, {"spawned 1 0", "range 0"}, {"queued 1 0", "range 0"}, {"queued 1 1099511627777", "range 0"}, {"segv 1 2", "form 0"}, {"segv 1 1000 0", "range 0"}, {"segv 1 1001 0", "form 0"}, {"segv 1 2 1000", "range 0"}, {"segv 1 2 1001", "form 0"}, {"forked 1 1000 1", "range 0"}, {"refused 1 1000 1", "range 0"}, {"segv 1 2 8", "range 0"}, {"refused 1 0 1", "range 0"}, {"refused 1 1001 1", "range 0"}, {"refused 1 7 0", "range 0"}, {"killed 1 1099511627777", "range 0"}, {"killed 1 -1", "form 0"},
		{strings.Repeat("\n", 20001), "long 20000"}, {strings.Repeat(" ", 1001), "long 0"},
	} {
		expect(t, [][2]string{{say(trace.Parse(c[0])), "[] {" + c[1] + "}"}})
	}
	expect(t, [][2]string{
		{say(trace.Parse("")), "[] {ok 0}"},
		{say(trace.Parse(" read +1, 0x2 3 0xffffffffffffffff 0 ; x\nkilled 8 0")), say([]api.Outcome{out(3, 1, 0, 2, 3, 0, math.MaxUint64), out(10, 8, 0, 0, 0, 0, 0)}, "{ok 0}")},
	})
}

// The examples of the chapter.

func TestExamples(t *testing.T) {
	s := "queued 1 1\nspawned 1 1\nmapped 1 0..3\nqueued 1 2\nwritten 1 2 0 77 2\nread 1 2 0 77 0\nexited 1\n"
	l, f := trace.Parse(s)
	parse := func(s string) []api.Outcome {
		t.Helper()
		l, f := trace.Parse(strings.ReplaceAll(s, ", ", "\n"))
		if f.Err != api.OK {
			t.Fatal(s, f)
		}
		return l
	}
	expect(t, [][2]string{
		{say(len(l), f), "7 {ok 0}"},
		{say(trace.Text(l)), s + " ok"},
		{say(trace.Waits(l)), "[{1 1 0 1} {2 1 3 4}] ok"},
		{say(trace.Waiting(l)), "[] ok"},
		{say(trace.Of(l, 1)), say(l, "ok")},
		{say(trace.Of(l, 2)), "[] ok"},
		{say(trace.Count(l)), "[1 0 1 1 0 1 1 0 2 0 0] ok"},
		{say(trace.Regular(parse("queued 1 1, queued 1 2"))), "1 ok"},
		{say(trace.Regular(parse("spawned 1 1"))), "0 ok"},
		{say(trace.Regular(parse("queued 1 2, spawned 1 2, queued 2 1"))), "2 ok"},
		{say(trace.Regular(parse("queued 1 1, killed 2 1"))), "1 ok"},
		{say(trace.Regular(parse("queued 1 1, killed 1 1, spawned 1 1"))), "2 ok"},
		{say(trace.Regular(parse("killed 1 0"))), "1 ok"},
	})
}
