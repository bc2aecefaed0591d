package measure_test

import (
	"fmt"
	"math/rand/v2"
	"slices"
	"strings"
	"testing"

	"headgate/api"
	"headgate/audit"
	"headgate/entry"
	"headgate/kernel"
	"headgate/measure"
)

// say writes values with blanks between them, errors by their names.
func say(l ...any) string { return strings.TrimSuffix(fmt.Sprintln(l...), "\n") }

// expect compares what calls gave with what they should give.
func expect(t *testing.T, l [][2]string) {
	t.Helper()
	for i, c := range l {
		if c[0] != c[1] {
			t.Fatalf("case %d: %.900q, not %.900q", i, c[0], c[1])
		}
	}
}

var configs = []api.Config{
	{Frames: 40, Low: 8, Slots: 8, Cap: 2, Queue: 4, Min: 3, LowMark: 6, High: 9, MapCap: 64},
	{Frames: 22, Low: 6, Slots: 6, Cap: 1, Queue: 2, Min: 2, LowMark: 4, High: 8, MapCap: 30},
	{Frames: 26, Low: 26, Slots: 3, Cap: 2, Queue: 3, Min: 3, LowMark: 4, High: 5, MapCap: 64},
	{Frames: 30, Low: 1, Slots: 40, Cap: 3, Queue: 9, Min: 5, LowMark: 9, High: 16, MapCap: 64},
}

// facts is what the chapter's terms say of a snapshot, in other words.
type facts struct {
	free, backed, needs       int
	wantsFrame, wantsRead     bool
	writable, spawn, fork, io bool
	slot                      int
}

func roles(s api.Snapshot, role int) (n int) {
	for _, r := range s.Roles {
		if r == role {
			n++
		}
	}
	return n
}

// look computes the facts of a snapshot.
func look(s api.Snapshot) facts {
	f := facts{free: roles(s, api.Free), slot: -1}
	f.backed = f.free + len(s.WriteSlabs)
	for n, refs := range s.Slots {
		used := slices.ContainsFunc(s.Writes, func(w api.WriteView) bool { return w.Slot == n }) || slices.ContainsFunc(s.Pending, func(p api.Pending) bool { return p.Slot == n })
		f.writable = f.writable || refs == 0 && !used
	}
	f.writable = f.writable && len(s.Active)+len(s.Inactive) > 0 && len(s.Writes) < s.Config.Cap && len(s.Pending) < s.Config.Queue
	if len(s.Requests) == 0 {
		return f
	}
	r := s.Requests[0]
	c, p := r.Command, s.Procs[r.Command.Proc-1]
	holds, reduce := len(r.Frames) > 0, 0
	if holds {
		reduce = 1
	}
	f.needs = 1
	switch {
	case c.Kind == api.DoSpawn:
		f.needs, f.wantsFrame = 2-reduce, !holds
	case c.Kind == api.DoFork:
		frames := 1
		for _, leaf := range p.Leaves {
			if leaf != -1 {
				frames++
			}
		}
		f.needs = 1 + max(0, frames-len(r.Frames))
		f.wantsFrame = c.A >= 1 && c.A <= 8 && s.Procs[max(1, min(8, c.A))-1].State == api.Dead && len(r.Frames) < frames
	case (c.Kind == api.DoRead || c.Kind == api.DoWrite) && c.A >= 0 && c.A < 64:
		e, _ := entry.Unpack(p.Entries[c.A])
		written := slices.ContainsFunc(s.Writes, func(w api.WriteView) bool { return w.Slot == e.Number })
		lacks := false
		switch {
		case e.Kind == api.None && c.Kind == api.DoWrite:
			f.needs = 2 - reduce
			if lacks = p.Leaves[c.A/8] == -1; lacks {
				f.needs++
			}
		case e.Kind == api.Present && c.Kind == api.DoWrite && !e.Writable && s.Refs[e.Number] > 1:
			f.needs = 2 - reduce
		case e.Kind == api.Swapped && written:
			f.needs = 2
			if r.State == api.Claims {
				f.needs = 1
			}
		case e.Kind == api.Swapped:
			f.needs, f.slot = 3-reduce, e.Number
			if r.State == api.Reading {
				f.needs = 1
			}
			f.wantsRead = holds && r.State != api.Reading
		}
		f.wantsFrame = f.needs > 1 && !(e.Kind == api.Swapped && written) && (!holds || lacks)
	}
	return f
}

// lowering is the list of the chapter.
func lowering(s api.Snapshot) api.Command {
	f, r := look(s), s.Requests[0]
	find := func(is func(p api.Pending) bool) int { return slices.IndexFunc(s.Pending, is) }
	objects := s.Objects[0] + s.Objects[1] + s.Objects[2]
	for _, rule := range []struct {
		may bool
		at  int
	}{
		{r.State == api.Claims, find(func(p api.Pending) bool { return p.Write && p.Slot == r.Slot })},
		{r.State == api.Reading, find(func(p api.Pending) bool { return !p.Write && p.Slot == r.Slot })},
		{f.wantsFrame && f.free <= s.Config.Min && objects == 0 && !f.writable, find(func(p api.Pending) bool { return p.Write || s.Roles[p.Frame] == api.Orphan })},
		{f.wantsRead, find(func(p api.Pending) bool { return p.Slot == f.slot })},
		{f.wantsRead && len(s.Pending) >= s.Config.Queue, 0},
	} {
		if rule.may && rule.at >= 0 {
			return api.Command{Kind: api.DoComplete, A: rule.at}
		}
	}
	return api.Command{Kind: api.DoPick, Proc: r.Command.Proc}
}

// check compares all functions with the chapter's terms for a snapshot in form.
func check(t *testing.T, s api.Snapshot) {
	t.Helper()
	before := say(s)
	f := look(s)
	reads := 0
	for _, p := range s.Pending {
		if !p.Write {
			reads++
		}
	}
	m := [7]int{len(s.Requests), f.needs, max(0, s.Config.Min+1-f.backed), s.Objects[0] + s.Objects[1] + s.Objects[2], roles(s, api.MappedFrame), len(s.Writes), reads}
	needs, wants, lower := "0 missing", "false false missing", say(api.Command{}, "missing")
	if len(s.Requests) > 0 {
		needs, wants, lower = say(f.needs, "ok"), say(f.wantsFrame, f.wantsRead, "ok"), say(lowering(s), "ok")
	}
	expect(t, [][2]string{
		{say(measure.Of(s)), say(m, "ok")},
		{say(measure.Backed(s)), say(f.free, f.backed, "ok")},
		{say(measure.Needs(s)), needs},
		{say(measure.Wants(s)), wants},
		{say(measure.Lowering(s)), lower},
		{say(s), before},
	})
}

// some returns a command for a kernel.
func some(r *rand.Rand) api.Command {
	p, page := 1+r.IntN(5), r.IntN(24)
	return []api.Command{
		{Kind: api.DoPick, Proc: p}, {Kind: api.DoWrite, Proc: p, A: page, B: 1, Value: 5}, {Kind: api.DoMap, Proc: p, A: page, B: page + 5}, {Kind: api.DoSpawn, Proc: p}, {Kind: api.DoRead, Proc: p, A: page},
		{Kind: api.DoComplete}, {Kind: api.DoWrite, Proc: p, A: page, B: 2, Value: 7}, {Kind: api.DoFork, Proc: p, A: p%5 + 1}, {Kind: api.DoHoard, A: 1 + r.IntN(3)},
		{Kind: api.DoPick}, {Kind: api.DoRounds, A: 1}, {Kind: api.DoUnmap, Proc: p, A: page, B: page}, {Kind: api.DoKill, Proc: p},
	}[min(r.IntN(13), r.IntN(14))]
}

// aim lets a process that lives access a page on the disk or on its way to it, if there is one.
func aim(r *rand.Rand, s api.Snapshot) (api.Command, bool) {
	for range 60 {
		p, page := r.IntN(8), r.IntN(64)
		if e, _ := entry.Unpack(s.Procs[p].Entries[page]); e.Kind == api.Swapped && s.Procs[p].State == api.Live {
			return api.Command{Kind: api.DoRead + r.IntN(2), Proc: p + 1, A: page}, true
		}
	}
	return api.Command{}, false
}

// P42.1, P42.2, P42.3, P42.4, P42.6, P42.7

func TestKernels(t *testing.T) {
	kinds := map[string]int{}
	for seed := range uint64(16) {
		r := rand.New(rand.NewPCG(seed, 42))
		k, _ := kernel.New(configs[seed%4])
		for range 300 {
			s := k.Snapshot()
			cmd := some(r)
			if w := k.Waiting(); cmd.Kind == api.DoPick && cmd.Proc > 0 && len(w) > 0 {
				cmd.Proc = w[0]
			} else if c, ok := aim(r, s); ok && r.IntN(2) == 0 {
				cmd = c
			}
			if (cmd.Kind == api.DoComplete || cmd.Kind == api.DoRounds) && r.IntN(3) > 0 {
				continue
			}
			k.Step(cmd)
			s = k.Snapshot()
			check(t, s)
			m, _ := measure.Of(s)
			if _, backed, _ := measure.Backed(s); backed < s.Config.Min || m[2] > 1 {
				t.Fatal(s, m)
			}
			if len(s.Requests) == 0 {
				if m[0] != 0 || m[1] != 0 {
					t.Fatal(m)
				}
				continue
			}
			kinds[lower(t, k.Copy())]++
			if r.IntN(20) == 0 {
				served(t, k.Copy(), kinds)
			}
		}
	}
	if kinds["9"] < 20 || kinds["10 0"] < 20 {
		t.Error(kinds)
	}
}

// lower gives a kernel the command of Lowering, and returns its kind, and how many places before the end it was.
func lower(t *testing.T, k *kernel.Kernel) string {
	t.Helper()
	s := k.Snapshot()
	before, _ := measure.Of(s)
	c, err := measure.Lowering(s)
	if err != api.OK {
		t.Fatal(err)
	}
	if _, err := k.Step(c); err != api.OK {
		t.Fatal(s, c, err)
	}
	after, _ := measure.Of(k.Snapshot())
	if measure.Compare(after, before) != -1 {
		t.Fatalf("%v does not lower %v: %v %+v", c, before, after, s)
	}
	if c.Kind == api.DoPick {
		return "9"
	}
	return say(c.Kind, c.A)
}

// served gives a kernel nothing but such commands until all requests are served.
func served(t *testing.T, k *kernel.Kernel, kinds map[string]int) {
	t.Helper()
	for n := 0; len(k.Waiting()) > 0; n++ {
		if kinds[lower(t, k)]++; n > 5000 {
			t.Fatal(k.Snapshot())
		}
	}
}

// base returns a snapshot of a machine of which the process 1 has the page 0 written, and waits with a request.
func base(t *testing.T, r api.Request) api.Snapshot {
	t.Helper()
	k, _ := kernel.New(configs[0])
	k.Run([]api.Command{{Kind: api.DoSpawn, Proc: 1}, {Kind: api.DoRounds, A: 3}, {Kind: api.DoMap, Proc: 1, A: 0, B: 20}, {Kind: api.DoWrite, Proc: 1, A: 0, B: 1, Value: 5}, {Kind: api.DoRounds, A: 4}})
	s := k.Snapshot()
	r.Command.Proc = 1
	s.Requests = []api.Request{r}
	return s
}

// P42.2: heads of all kinds and states, also such as no kernel has.

func TestHeads(t *testing.T) {
	for _, kind := range []int{0, api.DoSpawn, api.DoMap, api.DoRead, api.DoWrite, api.DoFork, api.DoKill} {
		for _, a := range []int{-1, 0, 8, 9, 63, 64} {
			for _, state := range []int{api.Wants, api.Holds, api.Claims, api.Reading} {
				for _, frames := range [][]int{nil, {30}, {30, 31, 32}} {
					for _, word := range []string{"-", "p39c", "p39w", "s3", "s4"} {
						s := base(t, api.Request{Ticket: 9, Command: api.Command{Kind: kind, A: a}, State: state, Frames: frames, Slot: 3})
						e, _ := entry.Parse(word)
						for _, page := range []int{0, 1, 9} {
							s.Procs[0].Entries[page], _ = entry.Pack(e)
						}
						s.Writes = []api.WriteView{{Slot: 4, Frame: 38}}
						check(t, s)
						for n := range 2 {
							s.Refs[39] = n + 1
							check(t, s)
						}
						s.Pending = []api.Pending{{Slot: 5, Frame: 37}, {Slot: 6, Frame: 37}, {Write: true, Slot: 7, Frame: 36}}
						check(t, s)
						s.Pending = append(s.Pending, api.Pending{Slot: 0, Frame: 37})
						check(t, s)
						s.Pending = []api.Pending{{Slot: 4, Frame: 37}, {Slot: 3, Frame: 37}, {Write: true, Slot: 3, Frame: 36}, {Write: true, Slot: 4, Frame: 35}}
						check(t, s)
						for f, role := range s.Roles {
							if role == api.Free && f != 36 {
								s.Roles[f] = api.Orphan
							}
						}
						check(t, s)
						s.Config.Cap = 1
						s.Objects[1] = 1
						check(t, s)
						s.Procs[1].State = api.Live
						s.Objects[1], s.Active, s.Pending = 0, nil, s.Pending[:2]
						check(t, s)
					}
				}
			}
		}
	}
}

// P42.2: whether a frame can be written out, where the head could only wait.

func TestWritable(t *testing.T) {
	for seed := range uint64(1500) {
		r := rand.New(rand.NewPCG(seed, 45))
		s := base(t, api.Request{Ticket: 9, Command: api.Command{Kind: api.DoSpawn}, State: api.Wants})
		left := s.Config.Min + r.IntN(2)
		for f, role := range s.Roles {
			if role != api.Free {
				continue
			}
			if left--; left < 0 {
				s.Roles[f] = []int{api.Reserved, api.Orphan}[r.IntN(2)]
			}
		}
		switch r.IntN(4) {
		case 0:
			s.Active, s.Inactive = nil, s.Active
		case 2:
			s.Inactive = slices.Clone(s.Active)
		case 1:
			s.Active = nil
		}
		for n := range s.Slots {
			s.Slots[n] = 1
		}
		slot := r.IntN(8)
		s.Slots[slot] = r.IntN(2)
		for range r.IntN(4) {
			s.Writes = append(s.Writes, api.WriteView{Slot: []int{slot, 1}[r.IntN(2)], Frame: r.IntN(40)})
		}
		for range r.IntN(6) {
			s.Pending = append(s.Pending, api.Pending{Write: r.IntN(5) == 0, Slot: []int{slot, 1}[r.IntN(2)], Frame: r.IntN(40)})
		}
		s.Objects[2] = r.IntN(5) / 4
		check(t, s)
	}
}

// P42.1

func TestErrors(t *testing.T) {
	for _, change := range []func(s *api.Snapshot){
		func(s *api.Snapshot) { s.Config.Frames = 300 },
		func(s *api.Snapshot) { s.Roles = s.Roles[1:] },
		func(s *api.Snapshot) { s.Roles[3] = 9 },
		func(s *api.Snapshot) { s.Refs[3] = -1 },
		func(s *api.Snapshot) { s.Procs[3].Entries[5] = 3; s.Requests = nil },
		func(s *api.Snapshot) { s.Requests[0].Command.Proc = 9 },
	} {
		s := base(t, api.Request{Ticket: 9, Command: api.Command{Kind: api.DoSpawn}, State: api.Wants})
		change(&s)
		e := audit.Check(s)
		if e == api.OK {
			t.Fatal(s)
		}
		expect(t, [][2]string{
			{say(measure.Of(s)), say([7]int{}, e)},
			{say(measure.Needs(s)), say(0, e)},
			{say(measure.Wants(s)), say(false, false, e)},
			{say(measure.Backed(s)), say(0, 0, e)},
			{say(measure.Lowering(s)), say(api.Command{}, e)},
		})
	}
}

// P42.1, P42.5

func TestCompare(t *testing.T) {
	r := rand.New(rand.NewPCG(1, 42))
	var l [][7]int
	for range 60 {
		var m [7]int
		for i := range m {
			m[i] = r.IntN(3) - 1
		}
		l = append(l, m)
	}
	l = append(l, [7]int{-1 << 63}, [7]int{1<<63 - 1}, l[3])
	for _, a := range l {
		for _, b := range l {
			want := slices.Compare(a[:], b[:])
			if got, back := measure.Compare(a, b), measure.Compare(b, a); got != want || back != -want {
				t.Fatal(a, b, got, back)
			}
			for _, c := range l {
				if measure.Compare(a, b) < 0 && measure.Compare(b, c) < 0 && measure.Compare(a, c) >= 0 {
					t.Fatal(a, b, c)
				}
			}
		}
	}
}

// The examples of the chapter.

func TestExamples(t *testing.T) {
	k, _ := kernel.New(configs[0])
	pick := api.Command{Kind: api.DoPick, Proc: 1}
	expect(t, [][2]string{
		{say(measure.Of(k.Snapshot())), say([7]int{}, "ok")},
		{say(measure.Lowering(k.Snapshot())), say(api.Command{}, "missing")},
		{say(measure.Needs(k.Snapshot())), "0 missing"},
	})
	k.Step(api.Command{Kind: api.DoSpawn, Proc: 1})
	expect(t, [][2]string{
		{say(measure.Of(k.Snapshot())), "[1 2 0 0 0 0 0] ok"},
		{say(measure.Wants(k.Snapshot())), "true false ok"},
		{say(measure.Lowering(k.Snapshot())), say(pick, "ok")},
	})
	k.Step(pick)
	expect(t, [][2]string{
		{say(measure.Of(k.Snapshot())), "[1 1 0 0 0 0 0] ok"},
		{say(measure.Wants(k.Snapshot())), "false false ok"},
		{say(measure.Lowering(k.Snapshot())), say(pick, "ok")},
	})
	k.Step(pick)
	expect(t, [][2]string{
		{say(measure.Of(k.Snapshot())), "[0 0 0 0 0 0 0] ok"},
		{say(measure.Compare([7]int{1, 2}, [7]int{1, 1, 9})), "1"},
		{say(measure.Compare([7]int{1, 2}, [7]int{1, 2})), "0"},
	})
}
