package model_test

import (
	"fmt"
	"math"
	"math/rand/v2"
	"slices"
	"strings"
	"testing"

	"headgate/api"
	"headgate/flat"
	"headgate/kernel"
	"headgate/model"
	"headgate/trace"
)

// say writes values with blanks between them, errors by their names.
func say(l ...any) string { return strings.TrimSuffix(fmt.Sprintln(l...), "\n") }

// expect compares what calls gave with what they should give.
func expect(t *testing.T, l [][2]string) {
	t.Helper()
	for i, c := range l {
		if c[0] != c[1] {
			t.Fatalf("case %d: %.900q, not %.900q", i, c[0], c[1])
		}
	}
}

// parse reads a trace, with commas between its rows.
func parse(s string) []api.Outcome {
	l, f := trace.Parse(strings.ReplaceAll(s, ", ", "\n"))
	if f.Err != api.OK {
		panic(say(s, f))
	}
	return l
}

var none = say(api.Story{})

// next is the table of the chapter; false if the outcome is not allowed.
func next(s api.Story, o api.Outcome) (api.Story, bool) {
	p := o.Proc
	waits := s.Waits[p-1]
	m, err := s.Memory, api.OK
	c := api.Story{Waits: slices.Clone(s.Waits), Last: s.Last}
	c.Waits[p-1] = 0
	ok := waits == o.Ticket
	switch o.Kind {
	case api.Mapped:
		m, err = flat.Map(m, p, o.Page, o.Other)
	case api.Unmapped:
		m, err = flat.Unmap(m, p, o.Page, o.Other)
	case api.Exited, api.Killed:
		m, err = flat.Exit(m, p)
	case api.Segv:
		_, bad := flat.Read(m, p, o.Page, o.Word)
		ok = ok && bad == api.ErrSegv
	case api.Read:
		v, bad := flat.Read(m, p, o.Page, o.Word)
		ok = ok && v == o.Value
		err = bad
	case api.Written:
		m, err = flat.Write(m, p, o.Page, o.Word, o.Value)
	case api.Queued:
		ok = waits == 0 && o.Ticket > s.Last
		c.Waits[p-1], c.Last = o.Ticket, o.Ticket
	case api.Spawned:
		m, err = flat.Spawn(m, p)
	case api.Forked:
		m, err = flat.Fork(m, p, o.Other)
	case api.Refused:
		ok = ok && m.Alive[p-1]
	}
	c.Memory = m
	return c, ok && err == api.OK
}

// some returns an outcome that is valid, and mostly allowed.
func some(r *rand.Rand, s api.Story, procs int) api.Outcome {
	p := 1 + r.IntN(procs)
	o := api.Outcome{Kind: 1 + r.IntN(11), Proc: p}
	ticket := s.Waits[p-1]
	if r.IntN(25) == 0 {
		ticket = r.Uint64N(s.Last + 3)
	}
	page, word := r.IntN(6), r.IntN(2)
	switch o.Kind {
	case api.Mapped, api.Unmapped:
		o.Page, o.Other = page, page+r.IntN(3)
	case api.Read, api.Written:
		o.Page, o.Word, o.Ticket, o.Value = page, word, ticket, r.Uint64N(3)
		if v, _ := flat.Read(s.Memory, p, page, word); o.Kind == api.Read && r.IntN(20) > 0 {
			o.Value = v
		}
	case api.Segv:
		o.Page, o.Word = page, word
	case api.Queued:
		o.Ticket = s.Last + 1 + r.Uint64N(3)
		if r.IntN(20) == 0 {
			o.Ticket = max(1, s.Last)
		}
	case api.Forked:
		o.Other, o.Ticket = p%8+1, max(1, ticket)
	case api.Spawned:
		o.Ticket = max(1, ticket)
	case api.Refused:
		o.Ticket, o.Value = max(1, ticket), 7
	case api.Killed:
		o.Ticket = ticket
	}
	return o
}

// trail returns a trace that is allowed but for its last outcome, perhaps, always the same one for a number.
func trail(seed uint64, n, procs int) []api.Outcome {
	r := rand.New(rand.NewPCG(seed, 40))
	s := model.New()
	var l []api.Outcome
	for len(l) < n {
		o := some(r, s, procs)
		c, ok := next(s, o)
		if !ok && r.IntN(10) > 0 {
			continue
		}
		l = append(l, o)
		if !ok {
			break
		}
		s = c
	}
	return l
}

// P40.1

func TestNewCheck(t *testing.T) {
	expect(t, [][2]string{{say(model.New()), say(api.Story{Memory: flat.New(), Waits: make([]uint64, 8)})}, {say(model.Check(model.New())), "ok"}})
	const last = api.MaxTickets
	bad := flat.New()
	bad.Maps[0] = 1
	for i, c := range []struct {
		change func(s *api.Story)
		err    api.Errno
	}{
		{func(s *api.Story) { s.Last = last }, api.OK},
		{func(s *api.Story) { s.Last, s.Waits[0], s.Waits[7] = last, last, 1 }, api.OK},
		{func(s *api.Story) { s.Memory = bad; s.Waits = nil }, api.ErrForm},
		{func(s *api.Story) { s.Memory = api.Flat{}; s.Last = last + 1 }, api.ErrForm},
		{func(s *api.Story) { s.Memory.Cells = []api.Cell{{}} }, api.ErrRange},
		{func(s *api.Story) { s.Waits = s.Waits[:7]; s.Last = last + 1 }, api.ErrForm},
		{func(s *api.Story) { s.Waits = append(s.Waits, 0) }, api.ErrForm},
		{func(s *api.Story) { s.Waits = nil }, api.ErrForm},
		{func(s *api.Story) { s.Last = last + 1; s.Waits[0], s.Waits[1] = 5, 5 }, api.ErrRange},
		{func(s *api.Story) { s.Last = math.MaxUint64 }, api.ErrRange},
		{func(s *api.Story) { s.Waits[3] = 1 }, api.ErrRange},
		{func(s *api.Story) { s.Last = 5; s.Waits[0], s.Waits[1], s.Waits[7] = 5, 5, 6 }, api.ErrRange},
		{func(s *api.Story) { s.Last = 5; s.Waits[0], s.Waits[1] = 5, 5 }, api.ErrExists},
		{func(s *api.Story) { s.Last = 5; s.Waits[2], s.Waits[7] = 1, 1 }, api.ErrExists},
	} {
		s := model.New()
		c.change(&s)
		if err := model.Check(s); err != c.err {
			t.Error(i, err, c.err)
		}
		if c.err != api.OK {
			expect(t, [][2]string{{say(model.Next(s, api.Outcome{})), say(none, c.err)}, {say(model.Next(s, api.Outcome{Kind: api.Exited, Proc: 1})), say(none, c.err)}})
		}
	}
}

// P40.2, P40.4

func TestNext(t *testing.T) {
	seen := map[string]int{}
	for seed := range uint64(25) {
		r := rand.New(rand.NewPCG(seed, 41))
		s := model.New()
		for range 300 {
			o := some(r, s, 3)
			before := say(s)
			got, err := model.Next(s, o)
			want, ok := next(s, o)
			seen[fmt.Sprint(o.Kind, ok)]++
			if !ok {
				expect(t, [][2]string{{say(got, err), none + " state"}})
				continue
			}
			expect(t, [][2]string{{say(got, err), say(want, "ok")}, {say(model.Check(got)), "ok"}})
			for i := range got.Waits {
				got.Waits[i], got.Memory.Alive[i], got.Memory.Maps[i] = 777, !got.Memory.Alive[i], 777
			}
			for i := range got.Memory.Cells {
				got.Memory.Cells[i].Word = 777
			}
			if say(s) != before {
				t.Fatal("an argument was changed")
			}
			s = want
		}
	}
	for kind := 1; kind <= 11; kind++ {
		if seen[fmt.Sprint(kind, true)] < 5 || seen[fmt.Sprint(kind, false)] < 5 {
			t.Error(kind, seen)
		}
	}
	for _, c := range []struct {
		o api.Outcome
		e string
	}{{api.Outcome{}, "kind"}, {api.Outcome{Kind: 12, Proc: 1}, "kind"}, {api.Outcome{Kind: api.Exited}, "range"}, {api.Outcome{Kind: api.Exited, Proc: 9}, "range"}, {api.Outcome{Kind: api.Exited, Proc: 1, Word: 1}, "form"}, {api.Outcome{Kind: api.Exited, Proc: 1}, "state"}} {
		expect(t, [][2]string{{say(model.Next(model.New(), c.o)), none + " " + c.e}})
	}
}

// P40.3, P40.5, P40.6

func TestTraces(t *testing.T) {
	for seed := range uint64(150) {
		l := trail(seed, 60, 4)
		before := say(l)
		s, at := model.New(), 0
		for at < len(l) {
			c, ok := next(s, l[at])
			if !ok {
				break
			}
			s, at = c, at+1
		}
		expect(t, [][2]string{{say(model.Allowed(l)), say(at, "ok")}})
		if at < len(l) {
			expect(t, [][2]string{
				{say(model.After(l)), none + " state"},
				{say(model.Page(l, 99, 99)), say(api.Content{}, "state")},
				{say(model.Waiting(l)), "[] state"},
				{say(model.Alive(l)), "[] state"},
			})
		}
		part, _ := model.Allowed(l[:len(l)/2])
		if part != min(at, len(l)/2) {
			t.Fatal(l, at, part)
		}
		l = l[:at]
		var waiting, alive []int
		for p := 1; p <= 8; p++ {
			if s.Waits[p-1] > 0 {
				waiting = append(waiting, p)
			}
			if s.Memory.Alive[p-1] {
				alive = append(alive, p)
			}
		}
		slices.SortFunc(waiting, func(a, b int) int { return int(s.Waits[a-1]) - int(s.Waits[b-1]) })
		expect(t, [][2]string{{say(model.After(l)), say(s, "ok")}, {say(model.Waiting(l)), say(waiting, "ok")}, {say(model.Alive(l)), say(alive, "ok")}})
		for p := -1; p <= 9; p++ {
			for _, page := range []int{-1, 0, 3, 63, 64} {
				c, err := flat.Page(s.Memory, p, page)
				expect(t, [][2]string{{say(model.Page(l, p, page)), say(c, err)}})
			}
		}
		n, _ := trace.Regular(l)
		tickets, _ := trace.Waiting(l)
		var same []uint64
		for _, p := range waiting {
			same = append(same, s.Waits[p-1])
		}
		if n != len(l) || !slices.Equal(tickets, same) {
			t.Fatal(l, n, tickets, same)
		}
		if seed > 0 && say(trail(seed, 60, 4)) != before {
			t.Fatal("an argument was changed")
		}
	}
}

func TestErrors(t *testing.T) {
	for _, c := range []struct {
		l []api.Outcome
		e string
	}{{make([]api.Outcome, 5001), "full"}, {[]api.Outcome{{}}, "kind"}, {parse("exited 1")[:0:0], "ok"}, {append(parse("exited 1"), api.Outcome{Kind: api.Exited, Proc: 9}), "range"}} {
		if c.e == "ok" {
			expect(t, [][2]string{{say(model.Allowed(c.l)), "0 ok"}, {say(model.After(c.l)), say(model.New(), "ok")}, {say(model.Alive(c.l)), "[] ok"}})
			continue
		}
		expect(t, [][2]string{
			{say(model.Allowed(c.l)), "0 " + c.e},
			{say(model.After(c.l)), none + " " + c.e},
			{say(model.Page(c.l, 1, 1)), say(api.Content{}, c.e)},
			{say(model.Waiting(c.l)), "[] " + c.e},
			{say(model.Alive(c.l)), "[] " + c.e},
		})
	}
}

// P40.7

func TestTheoremReads(t *testing.T) {
	for seed := range uint64(100) {
		l := slices.DeleteFunc(trail(seed, 80, 3), func(o api.Outcome) bool { return o.Kind == api.Forked })
		n, _ := model.Allowed(l)
		for i, o := range l[:n] {
			if o.Kind != api.Read {
				continue
			}
			value := uint64(0)
			for _, b := range l[:i] {
				switch {
				case b.Proc != o.Proc:
				case b.Kind == api.Mapped && b.Page <= o.Page && o.Page <= b.Other:
					value = 0
				case b.Kind == api.Written && b.Page == o.Page && b.Word == o.Word:
					value = b.Value
				}
			}
			if value != o.Value {
				t.Fatal(l[:i+1], value)
			}
		}
	}
}

// P40.8

func TestTheoremBehind(t *testing.T) {
	for seed := range uint64(100) {
		keep := func(l []api.Outcome) []api.Outcome {
			l = slices.DeleteFunc(l, func(o api.Outcome) bool { return o.Kind == api.Forked })
			n, _ := model.Allowed(l)
			return l[:n]
		}
		one, two := keep(trail(seed, 40, 3)), keep(trail(seed+500, 40, 3))
		for i := range two {
			two[i].Proc += 4
			if two[i].Ticket > 0 {
				two[i].Ticket += 1000
			}
		}
		both := slices.Concat(one, two)
		expect(t, [][2]string{{say(model.Allowed(two)), say(len(two), "ok")}, {say(model.Allowed(both)), say(len(both), "ok")}})
	}
}

// A kernel's traces are allowed.

func TestKernel(t *testing.T) {
	r := rand.New(rand.NewPCG(42, 40))
	k, _ := kernel.New(api.Config{Frames: 26, Low: 10, Slots: 6, Cap: 2, Queue: 3, Min: 3, LowMark: 4, High: 6, MapCap: 64})
	var l []api.Outcome
	for range 1500 {
		p, page := 1+r.IntN(4), r.IntN(20)
		out, _ := k.Run([]api.Command{[]api.Command{
			{Kind: api.DoSpawn, Proc: p}, {Kind: api.DoMap, Proc: p, A: page, B: page + 3}, {Kind: api.DoUnmap, Proc: p, A: page, B: page},
			{Kind: api.DoRead, Proc: p, A: page, B: 1}, {Kind: api.DoWrite, Proc: p, A: page, B: 1, Value: r.Uint64N(9)}, {Kind: api.DoWrite, Proc: p, A: page, B: 1, Value: 3},
			{Kind: api.DoFork, Proc: p, A: p%4 + 1}, {Kind: api.DoRounds, A: 1}, {Kind: api.DoRounds, A: 2}, {Kind: api.DoPick, Proc: p},
		}[r.IntN(10)]})
		l = append(l, out...)
	}
	expect(t, [][2]string{{say(model.Allowed(l)), say(len(l), "ok")}, {say(model.Waiting(l)), say(k.Waiting(), "ok")}})
}

// The examples of the chapter.

func TestExamples(t *testing.T) {
	four := "queued 1 1, spawned 1 1, mapped 1 3..7, read 1 3 0 0 0"
	for s, want := range map[string]int{
		four: 4,
		four + ", written 1 3 0 9 0, read 1 3 0 9 0":                 6,
		four + ", written 1 3 0 9 0, read 1 3 0 9 0, read 1 3 0 8 0": 6,
		"spawned 1 1":                        0,
		"queued 1 2, queued 2 1":             1,
		four + ", queued 1 5, mapped 1 8..8": 5,
		four + ", queued 1 5, forked 1 2 5, read 2 3 0 0 0, killed 1 0": 8,
		four + ", segv 1 8 0, segv 1 3 0":                               5,
	} {
		expect(t, [][2]string{{say(model.Allowed(parse(s))), say(want, "ok")}})
	}
	expect(t, [][2]string{{say(model.Alive(parse("queued 8 1, spawned 8 1, queued 1 2, spawned 1 2, queued 7 3"))), "[1 8] ok"}, {say(model.Waiting(parse("queued 8 1, queued 1 2"))), "[8 1] ok"}})
	expect(t, [][2]string{{say(model.Alive(parse(four + ", queued 1 5, forked 1 2 5, read 2 3 0 0 0, killed 1 0"))), "[2] ok"}})
}
