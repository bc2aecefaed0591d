package kernel_test

import (
	"fmt"
	"math"
	"math/rand/v2"
	"slices"
	"strings"
	"testing"

	"headgate/api"
	"headgate/entry"
	"headgate/flat"
	"headgate/kernel"
)

// say writes values with blanks between them, errors by their names.
func say(l ...any) string { return strings.TrimSuffix(fmt.Sprintln(l...), "\n") }

// expect compares what calls gave with what they should give.
func expect(t *testing.T, l [][2]string) {
	t.Helper()
	for i, c := range l {
		if c[0] != c[1] {
			t.Fatalf("case %d: %.3000q, not %.3000q", i, c[0], c[1])
		}
	}
}

// example is the configuration of the chapter's examples.
var example = api.Config{Frames: 40, Low: 8, Slots: 8, Cap: 2, Queue: 4, Min: 3, LowMark: 6, High: 9, MapCap: 64}

// configs are those with which everything is tried.
var configs = []api.Config{
	example,
	{Frames: 22, Low: 6, Slots: 6, Cap: 1, Queue: 2, Min: 2, LowMark: 4, High: 8, MapCap: 30},
	{Frames: 26, Low: 26, Slots: 3, Cap: 2, Queue: 3, Min: 3, LowMark: 4, High: 5, MapCap: 64},
	{Frames: 30, Low: 1, Slots: 40, Cap: 3, Queue: 9, Min: 5, LowMark: 9, High: 16, MapCap: 64},
	{Frames: 64, Low: 20, Slots: 64, Cap: 10, Queue: 17, Min: 11, LowMark: 20, High: 40, MapCap: 50},
	{Frames: 18, Low: 9, Slots: 1, Cap: 1, Queue: 2, Min: 2, LowMark: 3, High: 5, MapCap: 64},
	{Frames: 18, Low: 5, Slots: 60, Cap: 1, Queue: 2, Min: 2, LowMark: 3, High: 5, MapCap: 64},
}

// made returns a kernel.
func made(t *testing.T, c api.Config) *kernel.Kernel {
	t.Helper()
	k, err := kernel.New(c)
	if err != api.OK {
		t.Fatal(err)
	}
	return k
}

// some returns a command: mostly one that can be done.
func some(r *rand.Rand, procs int) api.Command {
	p := 1 + r.IntN(procs)
	page := []int{r.IntN(12), r.IntN(40), r.IntN(64)}[r.IntN(3)]
	switch n := r.IntN(100); {
	case n < 4:
		return api.Command{Kind: api.DoSpawn, Proc: p}
	case n < 12:
		return api.Command{Kind: api.DoMap, Proc: p, A: page, B: min(63, page+r.IntN(9))}
	case n < 15:
		return api.Command{Kind: api.DoUnmap, Proc: p, A: page, B: min(63, page+r.IntN(4))}
	case n < 23:
		return api.Command{Kind: api.DoRead, Proc: p, A: page, B: r.IntN(8)}
	case n < 45:
		return api.Command{Kind: api.DoWrite, Proc: p, A: page, B: r.IntN(8), Value: r.Uint64N(1000)}
	case n < 49:
		return api.Command{Kind: api.DoFork, Proc: p, A: 1 + r.IntN(procs)}
	case n < 50 && r.IntN(3) == 0:
		return api.Command{Kind: []int{api.DoExit, api.DoKill}[r.IntN(2)], Proc: p}
	case n < 53:
		return api.Command{Kind: api.DoHoard, A: 1 + r.IntN(3)}
	case n < 80:
		return api.Command{Kind: api.DoPick, Proc: r.IntN(procs + 1)}
	case n < 92:
		return api.Command{Kind: api.DoComplete, A: r.IntN(3)}
	case n < 98:
		return api.Command{Kind: api.DoRounds, A: 1 + r.IntN(4)}
	}
	return api.Command{Kind: r.IntN(14), Proc: r.IntN(10), A: r.IntN(70) - 2, B: r.IntN(70) - 2, Value: r.Uint64N(2)}
}

// aim turns a command towards what happens seldom: pages on the disk or on their way to it, the head, and who waits for the disk.
func aim(r *rand.Rand, s api.Snapshot, c api.Command) api.Command {
	switch {
	case r.IntN(3) == 0:
	case c.Kind == api.DoRead || c.Kind == api.DoWrite:
		var places []api.Place
		for i, p := range s.Procs {
			for page, w := range p.Entries {
				e, _ := entry.Unpack(w)
				writing := slices.ContainsFunc(s.Writes, func(v api.WriteView) bool { return v.Slot == e.Number })
				if p.State == api.Live && (e.Kind == api.Swapped && (writing || len(s.Writes) == 0) || e.Cow) {
					places = append(places, api.Place{Proc: i + 1, Page: page})
				}
			}
		}
		if len(places) > 0 {
			p := places[r.IntN(len(places))]
			c.Proc, c.A = p.Proc, p.Page
		}
	case c.Kind == api.DoFork:
		from, to := 0, 0
		for i, p := range s.Procs {
			switch swapped := slices.ContainsFunc(p.Entries[:], func(w uint64) bool { return w%4 == api.Swapped }); {
			case p.State == api.Live && (swapped || from == 0):
				from = i + 1
			case p.State == api.Dead:
				to = i + 1
			}
		}
		if from > 0 && to > 0 {
			c.Proc, c.A = from, to
		}
	case len(s.Requests) == 0:
	case c.Kind == api.DoPick, c.Kind == api.DoComplete && r.IntN(2) == 0:
		c = api.Command{Kind: api.DoPick, Proc: s.Requests[0].Command.Proc}
	case s.Requests[0].State >= api.Claims && r.IntN(12) == 0:
		c = api.Command{Kind: api.DoKill, Proc: s.Requests[0].Command.Proc}
	}
	return c
}

// P37.1, P37.2, P37.3, P37.4, P37.10: every step, compared with the machine in other words.

func TestSteps(t *testing.T) {
	seen := map[int]int{}
	for seed := range uint64(42) {
		c := configs[seed%7]
		k, m := made(t, c), newMachine(c)
		r := rand.New(rand.NewPCG(seed, 37))
		procs := 8 - int(seed/7)%7
		for range 500 {
			before := k.Snapshot()
			cmd := aim(r, before, some(r, procs))
			got, err := k.Step(cmd)
			want, wantErr := m.step(cmd)
			if say(got, err) != say(want, wantErr) {
				t.Fatalf("seed %d: %v: %v %v, not %v %v", seed, cmd, got, err, want, wantErr)
			}
			s := k.Snapshot()
			expect(t, [][2]string{{say(s), say(m.snapshot())}})
			if err != api.OK {
				expect(t, [][2]string{{say(s), say(before)}})
			}
			for _, o := range got {
				seen[o.Kind]++
			}
			looks(t, r, k, m)
		}
	}
	for kind := api.Mapped; kind <= api.Refused; kind++ {
		if seen[kind] < 2 {
			t.Error("an outcome is hardly tried:", kind, seen)
		}
	}
}

// looks compares what a kernel says of itself.
func looks(t *testing.T, r *rand.Rand, k *kernel.Kernel, m *machine) {
	t.Helper()
	var waiting []int
	for _, q := range m.requests {
		waiting = append(waiting, q.Command.Proc)
	}
	p, page := r.IntN(10), r.IntN(66)-1
	want := say(api.Content{}, "range")
	if p >= 1 && p <= 8 && page >= 0 && page <= 63 {
		e := m.procs[p].entries[page]
		switch {
		case !m.procs[p].alive:
			want = say(api.Content{}, "dead")
		case !m.procs[p].mapped[page]:
			want = say(api.Content{}, "segv")
		case e.Kind == api.None:
			want = say(api.Content{}, "ok")
		case e.Kind == api.Present:
			want = say(m.content[e.Number], "ok")
		case m.busy(e.Number) >= 0 && m.jobs[m.busy(e.Number)].write:
			want = say(m.jobs[m.busy(e.Number)].data, "ok")
		default:
			want = say(m.disk[e.Number], "ok")
		}
	}
	expect(t, [][2]string{{say(k.Free(), k.Waiting(), k.Disk()), say(m.free(), waiting, m.disk)}, {say(k.Page(p, page)), want}})
}

// P37.1

func TestNotValid(t *testing.T) {
	for _, c := range []api.Config{{}, {Frames: 40, Low: 8, Slots: 8, Cap: 2, Queue: 4, Min: 2, LowMark: 6, High: 9, MapCap: 64}} {
		want := api.ErrRange
		if c.Min == 2 {
			want = api.ErrOrder
		}
		if k, err := kernel.New(c); k != nil || err != want {
			t.Error(k, err)
		}
	}
	good := made(t, example)
	value := *good
	for i, k := range []*kernel.Kernel{nil, {}, new(kernel.Kernel), &value} {
		l, err := k.Step(api.Command{Kind: api.DoSpawn, Proc: 1})
		all, failed := k.Run([]api.Command{{Kind: api.DoSpawn, Proc: 1}, {}})
		if len(l) != 0 || err != api.ErrNil || len(all) != 0 || failed != 0 || k.Copy() != nil || k.Disk() != nil || k.Free() != 0 || k.Waiting() != nil {
			t.Error(i, l, err, all, failed)
		}
		expect(t, [][2]string{{say(k.Page(1, 1)), say(api.Content{}, "nil")}, {say(k.Page(99, 1)), say(api.Content{}, "nil")}, {say(k.Snapshot()), say(api.Snapshot{})}})
	}
	if l, err := good.Step(api.Command{Kind: api.DoSpawn, Proc: 1}); len(l) != 1 || err != api.OK {
		t.Error(l, err)
	}
	for _, n := range []int{math.MinInt, -1, 64, math.MaxInt} {
		expect(t, [][2]string{{say(good.Page(1, n)), say(api.Content{}, "range")}, {say(good.Page(n, 1)), say(api.Content{}, "range")}})
	}
}

// P37.2

func TestRun(t *testing.T) {
	for seed := range uint64(14) {
		r := rand.New(rand.NewPCG(seed, 38))
		var l []api.Command
		for range 200 {
			l = append(l, some(r, 4))
		}
		k, one := made(t, configs[seed%7]), made(t, configs[seed%7])
		var want []api.Outcome
		failed := 0
		for _, c := range l {
			out, err := one.Step(c)
			want = append(want, out...)
			if err != api.OK {
				failed++
			}
		}
		before := say(l)
		got, n := k.Run(l)
		expect(t, [][2]string{{say(got, n), say(want, failed)}, {say(k.Snapshot()), say(one.Snapshot())}, {say(l), before}})
	}
}

// both does the same with a kernel and with a machine, and compares them.
type both struct {
	t *testing.T
	k *kernel.Kernel
	m *machine
}

func newBoth(t *testing.T, c api.Config) both { return both{t, made(t, c), newMachine(c)} }

// step does a command.
func (b both) step(kind, proc, x, y int) {
	b.t.Helper()
	cmd := api.Command{Kind: kind, Proc: proc, A: x, B: y}
	got, err := b.k.Step(cmd)
	want, wantErr := b.m.step(cmd)
	expect(b.t, [][2]string{{say(got, err), say(want, wantErr)}, {say(b.k.Snapshot()), say(b.m.snapshot())}})
}

// serve picks a process until it does not wait any more, at most n times.
func (b both) serve(proc, n int) {
	b.t.Helper()
	for range n {
		if w := b.k.Waiting(); len(w) > 0 && w[0] == proc {
			b.step(api.DoPick, proc, 0, 0)
		}
	}
}

// P37.7: a kill waits for the read of an Orphan.

func TestOrphan(t *testing.T) {
	b := newBoth(t, api.Config{Frames: 18, Low: 9, Slots: 1, Cap: 1, Queue: 2, Min: 2, LowMark: 3, High: 5, MapCap: 64})
	// fill writes pages until only the reserve is left, and returns the next page, which has a leaf already.
	fill := func(proc int) (page int) {
		t.Helper()
		b.step(api.DoSpawn, proc, 0, 0)
		b.serve(proc, 9)
		b.step(api.DoMap, proc, 0, 31)
		for ; b.k.Free() > 2; page++ {
			b.step(api.DoWrite, proc, page, 1)
			b.serve(proc, 9)
		}
		return page
	}
	b.step(api.DoWrite, 1, fill(1), 1)
	b.serve(1, 3)
	b.step(api.DoComplete, 0, 0, 0)
	b.serve(1, 9)
	s := b.k.Snapshot()
	swapped := slices.IndexFunc(s.Procs[0].Entries[:], func(w uint64) bool { return w%4 == api.Swapped })
	if swapped < 0 || len(s.Requests) > 0 {
		t.Fatal(s)
	}
	b.step(api.DoUnmap, 1, 5, 6)
	b.step(api.DoRead, 1, swapped, 0)
	b.serve(1, 2)
	b.step(api.DoKill, 1, 0, 0)
	if !slices.Contains(b.k.Snapshot().Roles, api.Orphan) {
		t.Fatal(b.k.Snapshot())
	}
	b.step(api.DoWrite, 2, fill(2), 1)
	b.serve(2, 5)
	if w := b.k.Waiting(); len(w) != 1 {
		t.Fatal("no kill as long as there is an Orphan:", w)
	}
	b.step(api.DoComplete, 0, 0, 0)
	b.serve(2, 5)
}

// The chapter's steps of kswapd, where only two frames are mapped: most frames are tables of pages on the disk.

func TestFewMapped(t *testing.T) {
	b := newBoth(t, api.Config{Frames: 18, Low: 5, Slots: 60, Cap: 1, Queue: 2, Min: 2, LowMark: 3, High: 5, MapCap: 64})
	few := func() bool {
		s := b.k.Snapshot()
		return s.Awake && len(s.Active)+len(s.Inactive) == 2 && len(s.Requests)+len(s.Pending) == 0
	}
	for n := 0; n < 64 && !few(); n++ {
		proc, page := 1+n/8, n%8*8
		if page == 0 {
			b.step(api.DoSpawn, proc, 0, 0)
		}
		for range 9 {
			b.serve(proc, 1)
			b.step(api.DoComplete, 0, 0, 0)
		}
		b.step(api.DoMap, proc, page, page)
		b.step(api.DoWrite, proc, page, 1)
		for range 12 {
			b.serve(proc, 1)
			b.step(api.DoComplete, 0, 0, 0)
		}
	}
	if !few() {
		t.Fatal(b.k.Snapshot())
	}
	b.step(api.DoPick, 0, 0, 0)
	s := b.k.Snapshot()
	if len(s.Inactive) != 1 {
		t.Fatal(s)
	}
	frame := s.Inactive[0]
	for i, p := range s.Procs {
		for page, w := range p.Entries {
			if e, _ := entry.Unpack(w); e.Kind == api.Present && e.Number == frame {
				b.step(api.DoRead, i+1, page, 0)
			}
		}
	}
	b.step(api.DoPick, 0, 0, 0)
	if s := b.k.Snapshot(); len(s.Inactive) != 0 || s.Active[0] != frame {
		t.Fatal("it was referenced:", s)
	}
	b.step(api.DoPick, 0, 0, 0)
	b.step(api.DoPick, 0, 0, 0)
	if s := b.k.Snapshot(); len(s.Writes) != 1 {
		t.Fatal("it was not referenced:", s)
	}
}

// P37.2: as many objects as there may be, and how they go again.

func TestHoard(t *testing.T) {
	c := api.Config{Frames: 256, Low: 100, Slots: 4, Cap: 1, Queue: 8, Min: 2, LowMark: 3, High: 200, MapCap: 64}
	b := newBoth(t, c)
	for n := range 260 {
		b.step(api.DoHoard, 0, 1+n*n%3, 0)
	}
	if o := b.k.Snapshot().Objects; o[0]+o[1]+o[2] != api.MaxObjects {
		t.Error(o)
	}
	b.step(api.DoSpawn, 1, 0, 0)
	b.step(api.DoRounds, 0, 2, 0)
	for page := range 60 {
		if page%8 == 0 {
			b.step(api.DoMap, 1, page, min(63, page+7))
		}
		b.step(api.DoWrite, 1, page, 1)
		b.step(api.DoRounds, 0, 4, 0)
	}
}

// P37.8, and that no result shares memory with a kernel.

func TestCopy(t *testing.T) {
	for seed := range uint64(14) {
		r := rand.New(rand.NewPCG(seed, 39))
		k := made(t, configs[seed%7])
		for range 300 {
			k.Step(aim(r, k.Snapshot(), some(r, 4)))
		}
		c := k.Copy()
		before := say(k.Snapshot(), k.Disk())
		expect(t, [][2]string{{say(c.Snapshot(), c.Disk()), before}})
		var l []api.Command
		for range 100 {
			l = append(l, some(r, 4))
		}
		one, n := c.Run(l)
		expect(t, [][2]string{{say(k.Snapshot(), k.Disk()), before}})
		scribble(k)
		expect(t, [][2]string{{say(k.Snapshot(), k.Disk()), before}})
		after := say(c.Snapshot(), c.Disk())
		two, m := k.Run(l)
		expect(t, [][2]string{{say(one, n), say(two, m)}, {say(k.Snapshot(), k.Disk()), after}, {say(c.Snapshot(), c.Disk()), after}})
	}
}

// scribble writes over all that a kernel returns.
func scribble(k *kernel.Kernel) {
	s := k.Snapshot()
	for _, l := range [][]int{s.Roles, s.Refs, s.Slots, s.WriteSlabs, s.Active, s.Inactive, s.Objects, k.Waiting()} {
		for i := range l {
			l[i] = 777
		}
	}
	for i := range s.Referenced {
		s.Referenced[i] = !s.Referenced[i]
	}
	for _, p := range s.Procs {
		for i := range p.Regions {
			p.Regions[i].From = 777
		}
	}
	for i := range s.Writes {
		s.Writes[i].Slot = 777
	}
	for i := range s.Pending {
		s.Pending[i].Slot = 777
	}
	for i := range s.Requests {
		for j := range s.Requests[i].Frames {
			s.Requests[i].Frames[j] = 777
		}
		s.Requests[i].Ticket = 777
	}
	d := k.Disk()
	for i := range d {
		d[i] = api.Content{777}
	}
}

// P37.5, P37.6, P37.7, P37.9, P37.10

func TestTheorems(t *testing.T) {
	kills := 0
	for seed := range uint64(28) {
		c := configs[seed%7]
		k := made(t, c)
		r := rand.New(rand.NewPCG(seed, 40))
		memory := flat.New()
		last := uint64(0)
		for range 800 {
			cmd := aim(r, k.Snapshot(), some(r, 3+int(seed%5)))
			if w := k.Waiting(); cmd.Kind == api.DoRounds && len(w) > 0 {
				// Picks one by one: so the state before a kill is known.
				cmd = api.Command{Kind: api.DoPick, Proc: w[0]}
			}
			before := k.Snapshot()
			out, _ := k.Step(cmd)
			s := k.Snapshot()
			if k.Free() < c.Min-len(s.WriteSlabs) || len(s.Writes) > c.Cap {
				t.Fatal(seed, s)
			}
			for _, o := range out {
				memory = follow(t, memory, o)
				if o.Kind == api.Killed && cmd.Kind == api.DoPick {
					kills++
					allowed(t, before)
				}
				if o.Ticket > 0 && o.Kind != api.Queued && o.Kind != api.Killed {
					if o.Ticket <= last {
						t.Fatal("tickets out of order", o, last)
					}
					last = o.Ticket
				}
			}
			compare(t, k, memory)
		}
		k.Run([]api.Command{{Kind: api.DoRounds, A: 60}})
		for p := 1; p <= 8; p++ {
			k.Run([]api.Command{{Kind: api.DoRounds, A: 100}, {Kind: api.DoKill, Proc: p}})
		}
		k.Run([]api.Command{{Kind: api.DoRounds, A: 5}})
		s := k.Snapshot()
		if s.Objects[0]+s.Objects[1]+s.Objects[2] > 0 {
			continue
		}
		if k.Free() != c.Frames-(c.Queue+7)/8 || len(s.Pending) > 0 || slices.Max(s.Slots) > 0 {
			t.Fatal(seed, s)
		}
	}
	if kills < 5 {
		t.Error("hardly a victim was killed:", kills)
	}
}

// follow does what an outcome says with a flat memory.
func follow(t *testing.T, m api.Flat, o api.Outcome) api.Flat {
	t.Helper()
	next, err := m, api.OK
	switch o.Kind {
	case api.Mapped:
		next, err = flat.Map(m, o.Proc, o.Page, o.Other)
	case api.Unmapped:
		next, err = flat.Unmap(m, o.Proc, o.Page, o.Other)
	case api.Read:
		v, bad := flat.Read(m, o.Proc, o.Page, o.Word)
		if err = bad; v != o.Value {
			t.Fatal(o, v)
		}
	case api.Written:
		next, err = flat.Write(m, o.Proc, o.Page, o.Word, o.Value)
	case api.Forked:
		next, err = flat.Fork(m, o.Proc, o.Other)
	case api.Spawned:
		next, err = flat.Spawn(m, o.Proc)
	case api.Exited, api.Killed:
		next, err = flat.Exit(m, o.Proc)
	case api.Segv:
		if _, bad := flat.Read(m, o.Proc, o.Page, o.Word); bad != api.ErrSegv {
			t.Fatal(o, bad)
		}
	}
	if err != api.OK {
		t.Fatal(o, err)
	}
	return next
}

// compare compares all pages of a kernel with those of a flat memory.
func compare(t *testing.T, k *kernel.Kernel, m api.Flat) {
	t.Helper()
	for p := 1; p <= 8; p++ {
		for page := 0; page < 64; page += 3 {
			c, err := k.Page(p, page)
			d, bad := flat.Page(m, p, page)
			if c != d || err != bad {
				t.Fatal(p, page, c, err, d, bad)
			}
		}
	}
}

// allowed checks that a victim may be killed in the state before.
func allowed(t *testing.T, s api.Snapshot) {
	t.Helper()
	free, orphans := 0, 0
	for _, r := range s.Roles {
		if r == api.Free {
			free++
		}
		if r == api.Orphan {
			orphans++
		}
	}
	slot := false
	for i, n := range s.Slots {
		slot = slot || n == 0 && !slices.ContainsFunc(s.Pending, func(p api.Pending) bool { return p.Slot == i })
	}
	mapped := len(s.Active)+len(s.Inactive) > 0
	if free > s.Config.Min || len(s.Writes)+orphans > 0 || s.Objects[0]+s.Objects[1]+s.Objects[2] > 0 || mapped && slot && len(s.Pending) < s.Config.Queue {
		t.Fatal(s)
	}
}

// The examples of the chapter.

func TestExamples(t *testing.T) {
	k := made(t, example)
	row := func(want string, l ...api.Command) {
		t.Helper()
		out, failed := k.Run(l)
		if names(out) != want || failed != 0 {
			t.Errorf("%s %d, not %s", names(out), failed, want)
		}
	}
	cmd := func(kind, proc, a, b int, v uint64) api.Command {
		return api.Command{Kind: kind, Proc: proc, A: a, B: b, Value: v}
	}
	pick := cmd(api.DoPick, 1, 0, 0, 0)
	free := func(want int) {
		t.Helper()
		if k.Free() != want {
			t.Error(k.Free(), want)
		}
	}
	free(39)
	row("9:1t1 ", cmd(api.DoSpawn, 1, 0, 0, 0))
	row("", pick)
	row("6:1t1 ", pick)
	row("1:1 3:1v0 8:1 ", cmd(api.DoMap, 1, 3, 7, 0), cmd(api.DoRead, 1, 3, 0, 0), cmd(api.DoRead, 1, 8, 0, 0))
	row("9:1t2 ", cmd(api.DoWrite, 1, 3, 0, 9))
	row("", pick, pick)
	row("4:1v9t2 ", pick)
	row("3:1v9 ", cmd(api.DoRead, 1, 3, 0, 0))
	free(36)
	row("9:1t3 5:1t3 ", cmd(api.DoFork, 1, 2, 0, 0), cmd(api.DoRounds, 0, 3, 0, 0))
	row("9:2t4 4:2v5t4 3:1v9 3:2v5 ", cmd(api.DoWrite, 2, 3, 0, 5), cmd(api.DoRounds, 0, 2, 0, 0), cmd(api.DoRead, 1, 3, 0, 0), cmd(api.DoRead, 2, 3, 0, 0))
	row("7:1 10:2 ", cmd(api.DoExit, 1, 0, 0, 0), cmd(api.DoKill, 2, 0, 0, 0))
	free(39)
	for i, c := range []api.Command{cmd(api.DoSpawn, 9, 0, 0, 0), cmd(api.DoPick, 9, 0, 0, 0), cmd(api.DoExit, 1, 0, 0, 0), cmd(api.DoComplete, 0, 0, 0, 0)} {
		l, err := k.Step(c)
		expect(t, [][2]string{{say(l, err), "[] " + []string{"range", "range", "dead", "missing"}[i]}})
	}
}

// names writes outcomes shortly: kind, process, value and ticket.
func names(l []api.Outcome) (s string) {
	for _, o := range l {
		s += fmt.Sprintf("%d:%d", o.Kind, o.Proc)
		if o.Kind == api.Read || o.Kind == api.Written {
			s += fmt.Sprint("v", o.Value)
		}
		if o.Ticket > 0 {
			s += fmt.Sprint("t", o.Ticket)
		}
		s += " "
	}
	return s
}
