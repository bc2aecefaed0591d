package fault_test

import (
	"fmt"
	"math"
	"slices"
	"strings"
	"testing"

	"headgate/api"
	"headgate/fault"
)

// say writes values with blanks between them, errors by their names.
func say(l ...any) string { return strings.TrimSuffix(fmt.Sprintln(l...), "\n") }

// expect compares what calls gave with what they should give.
func expect(t *testing.T, l [][2]string) {
	t.Helper()
	for i, c := range l {
		if c[0] != c[1] {
			t.Fatalf("case %d: %.700q, not %.700q", i, c[0], c[1])
		}
	}
}

// req makes a request of the process 2 with the ticket 5.
func req(kind, state int, frames ...int) api.Request {
	c := api.Command{Kind: kind, Proc: 2}
	switch kind {
	case api.DoFork:
		c.A = 3
	case api.DoRead, api.DoWrite:
		c.A = 9
	}
	if kind == api.DoWrite {
		c.Value = 1
	}
	return api.Request{Ticket: 5, Command: c, State: state, Frames: frames}
}

// waiting makes an access that waits for a slot.
func waiting(kind, state, slot int, frames ...int) api.Request {
	r := req(kind, state, frames...)
	r.Slot = slot
	return r
}

// all returns valid requests of all forms.
func all() []api.Request {
	var l []api.Request
	for _, kind := range []int{api.DoSpawn, api.DoFork, api.DoRead, api.DoWrite} {
		l = append(l, req(kind, api.Wants), req(kind, api.Holds, 40))
	}
	nine := []int{9, 8, 7, 255, 0, 5, 4, 3, 2}
	for n := 2; n <= 9; n++ {
		l = append(l, req(api.DoFork, api.Holds, nine[:n]...))
	}
	for _, kind := range []int{api.DoRead, api.DoWrite} {
		for _, slot := range []int{0, 7, 255} {
			l = append(l, waiting(kind, api.Claims, slot), waiting(kind, api.Claims, slot, 40), waiting(kind, api.Reading, slot, 40))
		}
	}
	return l
}

// facts calls f for all facts of a request.
func facts(r api.Request, f func(f api.Facts)) {
	low, high := 0, 0
	if r.Command.Kind == api.DoRead || r.Command.Kind == api.DoWrite {
		low, high = 1, 8
	}
	for access := low; access <= high; access++ {
		for bits := range 8 {
			for leaves := range 9 {
				f(api.Facts{Access: access, Writing: bits&1 > 0, Room: bits&2 > 0, Free: bits&4 > 0, Leaves: leaves})
			}
		}
	}
}

// table is the table of the chapter.
func table(r api.Request, f api.Facts) (next, needs int) {
	held := len(r.Frames)
	switch {
	case r.Command.Kind == api.DoSpawn && held == 0:
		return api.GetTable, 2
	case r.Command.Kind == api.DoSpawn:
		return api.Resolve, 1
	case r.Command.Kind == api.DoFork:
		if !f.Free {
			return api.Refuse, 1
		}
		if lack := f.Leaves + 1 - held; lack > 0 {
			return api.GetTable, lack + 1
		}
		return api.Resolve, 1
	case r.State >= api.Claims:
		return api.StandBy, 1
	}
	switch f.Access {
	case api.Faulty:
		return api.Refuse, 1
	case api.Zero, api.Ready, api.Own:
		return api.Resolve, 1
	case api.Leafless:
		return api.GetTable, 3 - held
	case api.Fill, api.Copy:
		if held == 0 {
			return api.GetPage, 2
		}
		return api.Resolve, 1
	}
	switch {
	case f.Writing:
		return api.ClaimIt, 2
	case held == 0:
		return api.GetPage, 3
	case f.Room:
		return api.StartRead, 2
	}
	return api.StandBy, 2
}

var none = say(api.Request{})

// refused checks that all functions return an error for a request.
func refused(t *testing.T, r api.Request, e api.Errno) {
	t.Helper()
	expect(t, [][2]string{
		{say(fault.Check(r)), e.Error()},
		{say(fault.CheckFacts(r, api.Facts{Access: 99})), e.Error()},
		{say(fault.Next(r, api.Facts{Access: 1})), say(0, e)},
		{say(fault.Needs(r, api.Facts{Access: 99})), say(0, e)},
		{say(fault.Give(r, 999)), say(none, e)},
		{say(fault.Claim(r, 999)), say(none, e)},
		{say(fault.Read(r, 999)), say(none, e)},
		{say(fault.Lose(r)), say(none, e)},
		{say(fault.Most(r)), say(0, e)},
	})
}

// P35.1

func TestCheck(t *testing.T) {
	for _, r := range all() {
		expect(t, [][2]string{{say(fault.Check(r)), "ok"}})
		r.Ticket = api.MaxTickets
		expect(t, [][2]string{{say(fault.Check(r)), "ok"}})
	}
	with := func(r api.Request, f func(r *api.Request)) api.Request {
		f(&r)
		return r
	}
	w, spawn, fork, read := req(api.DoWrite, 1), req(api.DoSpawn, 1), req(api.DoFork, 1), req(api.DoRead, 1)
	for _, c := range []api.Command{{Kind: api.DoRead, Proc: 1}, {Kind: api.DoWrite, Proc: 8, A: 63, B: 7, Value: math.MaxUint64}, {Kind: api.DoWrite, Proc: 1}, {Kind: api.DoSpawn, Proc: 1}, {Kind: api.DoSpawn, Proc: 8}, {Kind: api.DoFork, Proc: 1, A: 8}, {Kind: api.DoFork, Proc: 8, A: 1}} {
		expect(t, [][2]string{{say(fault.Check(api.Request{Ticket: 1, Command: c, State: api.Wants})), "ok"}})
	}
	for _, n := range []uint64{0, api.MaxTickets + 1, math.MaxUint64} {
		refused(t, with(w, func(r *api.Request) { r.Ticket = n; r.Command.Kind = 0 }), api.ErrRange)
	}
	for _, n := range []int{0, 2, 3, 7, 8, 9, 10, 11, 12, 13, -1, math.MinInt, math.MaxInt} {
		refused(t, with(w, func(r *api.Request) { r.Command = api.Command{Kind: n, Proc: 99} }), api.ErrKind)
	}
	for _, n := range []int{-1, 64, 1 << 32, math.MinInt, math.MaxInt} {
		for _, r := range []api.Request{w, spawn, fork, read} {
			refused(t, with(r, func(r *api.Request) { r.Command.Proc = n; r.State = 9 }), api.ErrRange)
		}
		for _, r := range []api.Request{w, fork, read} {
			refused(t, with(r, func(r *api.Request) { r.Command.A = n; r.State = 9 }), api.ErrRange)
		}
		for _, r := range []api.Request{w, read} {
			refused(t, with(r, func(r *api.Request) { r.Command.B = n; r.State = 9 }), api.ErrRange)
		}
		for _, r := range []api.Request{spawn, fork} {
			refused(t, with(r, func(r *api.Request) { r.Command.B = n; r.State = 9 }), api.ErrForm)
		}
		refused(t, with(spawn, func(r *api.Request) { r.Command.A = n }), api.ErrForm)
		for _, r := range []api.Request{w, spawn, fork, read} {
			refused(t, with(r, func(r *api.Request) { r.State = n; r.Frames = []int{999} }), api.ErrState)
			refused(t, with(r, func(r *api.Request) { r.State = 0 }), api.ErrState)
			refused(t, with(r, func(r *api.Request) { r.State = 5 }), api.ErrState)
			refused(t, with(r, func(r *api.Request) { r.Slot = n }), api.ErrRange)
		}
	}
	refused(t, with(w, func(r *api.Request) { r.Command.Proc = 0 }), api.ErrRange)
	refused(t, with(w, func(r *api.Request) { r.Command.Proc = 9 }), api.ErrRange)
	refused(t, with(w, func(r *api.Request) { r.Command.B = 8 }), api.ErrRange)
	refused(t, with(fork, func(r *api.Request) { r.Command.A = 2 }), api.ErrRange)
	refused(t, with(fork, func(r *api.Request) { r.Command.A = 9 }), api.ErrRange)
	refused(t, with(fork, func(r *api.Request) { r.Command.A = 0 }), api.ErrRange)
	refused(t, with(fork, func(r *api.Request) { r.Command.A, r.Command.B = 2, 1 }), api.ErrRange)
	for _, r := range []api.Request{spawn, fork, read} {
		refused(t, with(r, func(r *api.Request) { r.Command.Value = 1; r.State = 9 }), api.ErrForm)
	}
	for _, r := range []api.Request{spawn, fork} {
		refused(t, with(r, func(r *api.Request) { r.State = api.Claims }), api.ErrState)
		refused(t, with(r, func(r *api.Request) { r.State = api.Reading; r.Frames = []int{4} }), api.ErrState)
	}
	for _, kind := range []int{api.DoSpawn, api.DoFork, api.DoRead, api.DoWrite} {
		refused(t, req(kind, api.Wants, 300), api.ErrFull)
		refused(t, req(kind, api.Holds), api.ErrFull)
		refused(t, req(kind, api.Holds, 0, 1, 2, 3, 4, 5, 6, 7, 8, 9), api.ErrFull)
		if kind != api.DoFork {
			refused(t, req(kind, api.Holds, 300, 300), api.ErrFull)
		}
		refused(t, req(kind, api.Holds, 256), api.ErrRange)
		refused(t, req(kind, api.Holds, -1), api.ErrRange)
		refused(t, with(req(kind, api.Holds, 40), func(r *api.Request) { r.Slot = 1 }), api.ErrRange)
	}
	refused(t, req(api.DoFork, api.Holds, 4, 5, 4, 300), api.ErrExists)
	refused(t, req(api.DoFork, api.Holds, 4, 300, 4), api.ErrRange)
	refused(t, waiting(api.DoRead, api.Claims, 0, 1, 2), api.ErrFull)
	refused(t, waiting(api.DoRead, api.Reading, 999), api.ErrFull)
	refused(t, waiting(api.DoRead, api.Reading, 0, 1, 2), api.ErrFull)
	refused(t, waiting(api.DoRead, api.Reading, 256, 1), api.ErrRange)
	refused(t, waiting(api.DoWrite, api.Claims, -1), api.ErrRange)
}

func TestCheckFacts(t *testing.T) {
	for _, r := range all() {
		access := r.Command.Kind == api.DoRead || r.Command.Kind == api.DoWrite
		for _, n := range []int{math.MinInt, -1, 0, 1, 2, 8, 9, 10, math.MaxInt} {
			want := "range"
			if access && n >= 1 && n <= 8 || !access && n == 0 {
				want = "ok"
			}
			f := api.Facts{Access: n}
			expect(t, [][2]string{{say(fault.CheckFacts(r, f)), want}})
			if want != "ok" {
				expect(t, [][2]string{{say(fault.Next(r, f)), "0 range"}, {say(fault.Needs(r, f)), "0 range"}})
				continue
			}
			if r.Command.Kind == api.DoFork {
				f.Leaves = n
				f.Access = 0
				leaves := "range"
				if n >= 0 && n <= 8 {
					leaves = "ok"
				}
				expect(t, [][2]string{{say(fault.CheckFacts(r, f)), leaves}})
			}
		}
		for _, n := range []int{math.MinInt, -1, 9, math.MaxInt} {
			f := api.Facts{Leaves: n}
			if access {
				f.Access = 3
			}
			expect(t, [][2]string{{say(fault.CheckFacts(r, f)), "range"}})
		}
	}
}

// P35.2, P35.5, P35.7

func TestNextNeedsMost(t *testing.T) {
	for _, r := range all() {
		most := 0
		before := say(r)
		facts(r, func(f api.Facts) {
			next, needs := table(r, f)
			most = max(most, needs)
			expect(t, [][2]string{{say(fault.Next(r, f)), say(next, "ok")}, {say(fault.Needs(r, f)), say(needs, "ok")}})
			ends := next == api.Resolve || next == api.Refuse
			if ends && needs != 1 || needs == 1 && !ends && next != api.StandBy {
				t.Fatal(r, f, next, needs)
			}
			follow(t, r, f, next, needs)
		})
		expect(t, [][2]string{{say(fault.Most(r)), say(most, "ok")}, {say(r), before}})
		if access := r.Command.Kind >= api.DoRead && r.Command.Kind <= api.DoWrite; most > 10 || access && most > 3 {
			t.Fatal(r, most)
		}
	}
}

// P35.6: follow does what is next, and checks that less is needed then.
func follow(t *testing.T, r api.Request, f api.Facts, next, needs int) {
	t.Helper()
	var after api.Request
	var err api.Errno
	access := r.Command.Kind == api.DoRead || r.Command.Kind == api.DoWrite
	switch {
	case next == api.GetPage, next == api.GetTable && !access:
		after, err = fault.Give(r, 77)
	case next == api.GetTable:
		after, f.Access = r, api.Fill
	case next == api.ClaimIt:
		after, err = fault.Claim(r, 7)
	case next == api.StartRead:
		after, err = fault.Read(r, 7)
	default:
		return
	}
	less, err2 := fault.Needs(after, f)
	if err != api.OK || err2 != api.OK || less != needs-1 {
		t.Fatal(r, f, next, needs, after, less, err, err2)
	}
}

// P35.3, P35.4, P35.8

func TestChanges(t *testing.T) {
	for _, r := range all() {
		before := say(r)
		access := r.Command.Kind == api.DoRead || r.Command.Kind == api.DoWrite
		most := 1
		if r.Command.Kind == api.DoFork {
			most = 9
		}
		for _, n := range []int{0, 1, 7, 40, 77, 255, 256, -1, math.MinInt, math.MaxInt, 1 << 32} {
			valid := n >= 0 && n < 256
			give := say(none, "exists")
			switch {
			case r.State >= api.Claims:
				give = say(none, "state")
			case len(r.Frames) == most:
				give = say(none, "full")
			case !valid:
				give = say(none, "range")
			case !slices.Contains(r.Frames, n):
				c := r
				c.State, c.Frames = api.Holds, append(slices.Clone(r.Frames), n)
				give = say(c, "ok")
			}
			claim, read := say(none, "state"), say(none, "state")
			if access && r.State <= api.Holds {
				c := r
				c.State, c.Slot = api.Claims, n
				claim = say(c, "ok")
				c.State = api.Reading
				if r.State == api.Holds {
					read = say(c, "ok")
				}
				if !valid {
					claim = say(none, "range")
					if r.State == api.Holds {
						read = claim
					}
				}
			}
			expect(t, [][2]string{{say(fault.Give(r, n)), give}, {say(fault.Claim(r, n)), claim}, {say(fault.Read(r, n)), read}})
			for _, f := range []func(r api.Request, n int) (api.Request, api.Errno){fault.Give, fault.Claim, fault.Read} {
				c, err := f(r, n)
				if err != api.OK {
					continue
				}
				if fault.Check(c) != api.OK {
					t.Fatal(r, n, c)
				}
				if c.State == api.Claims {
					expect(t, [][2]string{{say(fault.Lose(c)), before + " ok"}})
				}
				for i := range c.Frames {
					c.Frames[i] = 777
				}
			}
		}
		lose := say(none, "state")
		if r.State == api.Claims {
			c := r
			c.Slot = 0
			c.State = api.Wants + len(r.Frames)
			lose = say(c, "ok")
		}
		c, err := fault.Lose(r)
		expect(t, [][2]string{{say(c, err), lose}})
		for i := range c.Frames {
			c.Frames[i] = 777
		}
		if say(r) != before {
			t.Fatal("an argument was changed")
		}
	}
}

// The examples of the chapter.

func TestExamples(t *testing.T) {
	w := req(api.DoWrite, api.Wants)
	held, err := fault.Give(w, 40)
	both := func(r api.Request, f api.Facts) string {
		next, _ := fault.Next(r, f)
		needs, err := fault.Needs(r, f)
		return say(next, needs, err)
	}
	read, _ := fault.Read(held, 7)
	claimed, _ := fault.Claim(w, 7)
	fork := req(api.DoFork, api.Wants)
	expect(t, [][2]string{
		{both(w, api.Facts{Access: api.Leafless}), "3 3 ok"},
		{both(w, api.Facts{Access: api.Fill}), "4 2 ok"},
		{both(w, api.Facts{Access: api.Fetch, Writing: true}), "5 2 ok"},
		{both(w, api.Facts{Access: api.Fetch}), "4 3 ok"},
		{both(w, api.Facts{Access: api.Own}), "1 1 ok"},
		{say(held.Frames, err), "[40] ok"},
		{both(held, api.Facts{Access: api.Fill}), "1 1 ok"},
		{both(held, api.Facts{Access: api.Fetch, Room: true}), "6 2 ok"},
		{both(held, api.Facts{Access: api.Fetch}), "7 2 ok"},
		{say(read.State, read.Slot), "4 7"},
		{both(read, api.Facts{Access: api.Fetch}), "7 1 ok"},
		{say(fault.Lose(claimed)), say(w, "ok")},
		{both(fork, api.Facts{Leaves: 2, Free: true}), "3 4 ok"},
		{both(req(api.DoFork, api.Holds, 1, 2, 3), api.Facts{Leaves: 2, Free: true}), "1 1 ok"},
		{both(fork, api.Facts{Leaves: 2}), "2 1 ok"},
		{say(fault.Give(held, 40)), say(none, "full")},
		{say(fault.Give(held, 41)), say(none, "full")},
		{say(fault.Read(w, 7)), say(none, "state")},
		{say(fault.Lose(w)), say(none, "state")},
		{say(fault.Most(w)), "3 ok"},
		{say(fault.Most(req(api.DoSpawn, api.Wants))), "2 ok"},
		{say(fault.Most(fork)), "10 ok"},
	})
}
