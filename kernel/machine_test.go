package kernel_test

import (
	"slices"

	"headgate/api"
	"headgate/entry"
	"headgate/region"
)

// machine is a kernel in other words: plain fields, no layers. What the kernel does is compared with what it does.
type machine struct {
	c                api.Config
	roles            []int
	content          []api.Content
	active, inactive []int
	referenced       []bool
	procs            [9]proc
	disk             []api.Content
	jobs             []job
	requests         []api.Request
	next             uint64
	awake            bool
	stores           [4]map[int]bool
	objects          [][2]int // kind and number
	out              []api.Outcome
}

// proc is a process: leaves are -1 if they are not there.
type proc struct {
	alive   bool
	root    int
	leaves  [8]int
	mapped  [64]bool
	entries [64]api.Entry
}

// job is a request of the disk, who waits for it, and its write entry.
type job struct {
	write       bool
	slot, frame int
	data        api.Content
	proc, note  int
}

func dead() proc { return proc{root: -1, leaves: [8]int{-1, -1, -1, -1, -1, -1, -1, -1}} }

func newMachine(c api.Config) *machine {
	m := &machine{c: c, roles: make([]int, c.Frames), content: make([]api.Content, c.Frames), referenced: make([]bool, c.Frames), disk: make([]api.Content, c.Slots), next: 1}
	for i := range m.procs {
		m.procs[i] = dead()
	}
	for i := range m.stores {
		m.stores[i] = map[int]bool{}
	}
	for range (c.Queue + 7) / 8 {
		m.take(0, api.PoolFrame)
	}
	return m
}

func (m *machine) free() (n int) {
	for _, r := range m.roles {
		if r == api.Free {
			n++
		}
	}
	return n
}

// take takes the first frame of the least free block of a zone, or of the other one.
func (m *machine) take(zone, role int) int {
	for _, z := range []int{zone, 1 - zone} {
		from, to := 0, m.c.Low
		if z == 1 {
			from, to = m.c.Low, m.c.Frames
		}
		free := func(at, order int) bool {
			if from+at+1<<order > to || order > 6 {
				return false
			}
			for _, r := range m.roles[from+at : from+at+1<<order] {
				if r != api.Free {
					return false
				}
			}
			return true
		}
		for order := range 7 {
			for at := 0; at < to-from; at += 1 << order {
				if free(at, order) && !free(at&^(1<<order), order+1) {
					m.roles[from+at] = role
					return from + at
				}
			}
		}
	}
	panic("no frame")
}

func (m *machine) give(frame int) { m.roles[frame] = api.Free }

func (m *machine) entries(f func(p, page int, e *api.Entry)) {
	for p := 1; p <= 8; p++ {
		for page := range 64 {
			f(p, page, &m.procs[p].entries[page])
		}
	}
}

// count returns how many entries have a frame (Present) or a slot (Swapped).
func (m *machine) count(kind, number int) (n int) {
	m.entries(func(_, _ int, e *api.Entry) {
		if e.Kind == kind && e.Number == number {
			n++
		}
	})
	return n
}

func (m *machine) busy(slot int) int {
	return slices.IndexFunc(m.jobs, func(j job) bool { return j.slot == slot })
}

func (m *machine) freeSlots() (l []int) {
	for s := range m.disk {
		if m.count(api.Swapped, s) == 0 && m.busy(s) < 0 {
			l = append(l, s)
		}
	}
	return l
}

func (m *machine) writes() (n int) {
	for _, j := range m.jobs {
		if j.write {
			n++
		}
	}
	return n
}

// put puts an object into a store.
func (m *machine) put(which int) int {
	s := m.stores[which]
	for frame := range m.c.Frames {
		used := 0
		for i := range 8 {
			if s[8*frame+i] {
				used++
			}
		}
		if used == 0 || used == 8 {
			continue
		}
		for i := range 8 {
			if !s[8*frame+i] {
				s[8*frame+i] = true
				return 8*frame + i
			}
		}
	}
	object := 8 * m.take(0, api.SlabFrame)
	s[object] = true
	return object
}

func (m *machine) drop(which, object int) {
	s := m.stores[which]
	delete(s, object)
	for i := range 8 {
		if s[object/8*8+i] {
			return
		}
	}
	m.give(object / 8)
}

func (m *machine) unlist(frame int) {
	is := func(f int) bool { return f == frame }
	m.active, m.inactive = slices.DeleteFunc(m.active, is), slices.DeleteFunc(m.inactive, is)
	m.referenced[frame] = false
}

func (m *machine) enter(frame int, c api.Content) {
	m.roles[frame], m.content[frame] = api.MappedFrame, c
	m.active = append([]int{frame}, m.active...)
}

// clear makes an entry None.
func (m *machine) clear(e *api.Entry) {
	old := *e
	*e = api.Entry{}
	if old.Kind == api.Present && m.count(api.Present, old.Number) == 0 {
		m.unlist(old.Number)
		m.give(old.Number)
	}
}

func (m *machine) request(p int) int {
	return slices.IndexFunc(m.requests, func(r api.Request) bool { return r.Command.Proc == p })
}

func (m *machine) apart(p int) {
	for page := range 64 {
		m.clear(&m.procs[p].entries[page])
	}
	for _, f := range append(m.procs[p].leaves[:], m.procs[p].root) {
		if f >= 0 {
			m.give(f)
		}
	}
	m.procs[p] = dead()
	at := m.request(p)
	if at < 0 {
		return
	}
	for _, f := range m.requests[at].Frames {
		m.give(f)
	}
	for i := range m.jobs {
		if m.jobs[i].proc == p {
			if m.jobs[i].proc = 0; !m.jobs[i].write {
				m.roles[m.jobs[i].frame] = api.Orphan
			}
		}
	}
	m.requests = slices.Delete(m.requests, at, at+1)
}

func (m *machine) tell(o api.Outcome) { m.out = append(m.out, o) }

func (m *machine) kill(p int) {
	o := api.Outcome{Kind: api.Killed, Proc: p}
	if at := m.request(p); at >= 0 {
		o.Ticket = m.requests[at].Ticket
	}
	m.apart(p)
	m.tell(o)
}

// word reads or writes a word of a frame.
func (m *machine) word(c api.Command, frame int, ticket uint64) {
	o := api.Outcome{Kind: api.Read, Proc: c.Proc, Page: c.A, Word: c.B, Ticket: ticket}
	if c.Kind == api.DoWrite {
		o.Kind = api.Written
		m.content[frame][c.B] = c.Value
	}
	o.Value = m.content[frame][c.B]
	m.tell(o)
}

// now does an access that can be done at once, and says whether it could.
func (m *machine) now(c api.Command, ticket uint64) bool {
	e := &m.procs[c.Proc].entries[c.A]
	switch {
	case e.Kind == api.None && c.Kind == api.DoRead:
		m.tell(api.Outcome{Kind: api.Read, Proc: c.Proc, Page: c.A, Word: c.B, Ticket: ticket})
		return true
	case e.Kind != api.Present || c.Kind == api.DoWrite && e.Cow && m.count(api.Present, e.Number) > 1:
		return false
	}
	if c.Kind == api.DoWrite {
		e.Writable, e.Cow = true, false
	}
	m.referenced[e.Number] = true
	m.word(c, e.Number, ticket)
	return true
}

func (m *machine) ask(c api.Command) {
	m.requests = append(m.requests, api.Request{Ticket: m.next, Command: c, State: api.Wants})
	m.tell(api.Outcome{Kind: api.Queued, Proc: c.Proc, Ticket: m.next})
	m.next++
}

// done takes a request out of the queue, and gives its frames back but for the first n.
func (m *machine) done(p, n int) {
	at := m.request(p)
	for _, f := range m.requests[at].Frames[min(n, len(m.requests[at].Frames)):] {
		m.give(f)
	}
	m.requests = slices.Delete(m.requests, at, at+1)
}

// regions returns the regions of a process.
func (m *machine) regions(p int) (l []api.Range) {
	for page, in := range m.procs[p].mapped {
		if in {
			l, _ = region.Map(l, page, page, 64)
		}
	}
	return l
}

// snapshot returns what the kernel's snapshot should be.
func (m *machine) snapshot() api.Snapshot {
	s := api.Snapshot{Config: m.c, Roles: m.roles, Referenced: m.referenced, Active: m.active, Inactive: m.inactive, Requests: m.requests, Next: m.next, Awake: m.awake, Objects: make([]int, 3)}
	for f := range m.roles {
		s.Refs = append(s.Refs, m.count(api.Present, f))
	}
	for n := range m.disk {
		s.Slots = append(s.Slots, m.count(api.Swapped, n))
	}
	for p := 1; p <= 8; p++ {
		v := api.ProcView{Root: m.procs[p].root, Leaves: m.procs[p].leaves, Regions: m.regions(p)}
		if m.procs[p].alive {
			v.State = api.Live
		}
		if m.request(p) >= 0 {
			v.State = api.Blocked
		}
		for page, e := range m.procs[p].entries {
			v.Entries[page], _ = entry.Pack(e)
		}
		s.Procs = append(s.Procs, v)
	}
	for _, j := range m.jobs {
		s.Pending = append(s.Pending, api.Pending{Write: j.write, Slot: j.slot, Frame: j.frame})
		if j.write {
			s.Writes = append(s.Writes, api.WriteView{Slot: j.slot, Frame: j.frame, Claim: j.proc})
		}
	}
	for object := range m.stores[0] {
		if !slices.Contains(s.WriteSlabs, object/8) {
			s.WriteSlabs = append(s.WriteSlabs, object/8)
		}
	}
	slices.Sort(s.WriteSlabs)
	for _, o := range m.objects {
		s.Objects[o[0]-1]++
	}
	return s
}
