package kernel_test

import (
	"slices"

	"headgate/api"
	"headgate/script"
)

// step does a command as the chapter says; with an error nothing changes.
func (m *machine) step(c api.Command) ([]api.Outcome, api.Errno) {
	m.out = nil
	if err := m.refuses(c); err != api.OK {
		return nil, err
	}
	p := &m.procs[c.Proc]
	switch c.Kind {
	case api.DoSpawn, api.DoFork:
		m.ask(c)
	case api.DoMap, api.DoUnmap:
		m.change(c)
	case api.DoRead, api.DoWrite:
		if !p.mapped[c.A] {
			m.tell(api.Outcome{Kind: api.Segv, Proc: c.Proc, Page: c.A, Word: c.B})
		} else if !m.now(c, 0) {
			m.ask(c)
		}
	case api.DoExit:
		m.apart(c.Proc)
		m.tell(api.Outcome{Kind: api.Exited, Proc: c.Proc})
	case api.DoKill:
		m.kill(c.Proc)
	case api.DoHoard:
		m.objects = append(m.objects, [2]int{c.A, m.put(c.A)})
	case api.DoPick:
		m.pick(c.Proc)
	case api.DoComplete:
		m.complete(c.A)
	case api.DoRounds:
		for range c.A {
			m.round()
		}
	}
	m.look()
	return m.out, api.OK
}

// refuses returns the error that a command has.
func (m *machine) refuses(c api.Command) api.Errno {
	if err := script.One(c); err != api.OK {
		return err
	}
	switch c.Kind {
	case api.DoHoard:
		if m.free() <= m.c.High || len(m.objects) == 256 {
			return api.ErrFull
		}
		return api.OK
	case api.DoComplete:
		if c.A >= len(m.jobs) {
			return api.ErrMissing
		}
		return api.OK
	case api.DoPick, api.DoRounds:
		return api.OK
	}
	p := m.procs[c.Proc]
	blocked := m.request(c.Proc) >= 0
	mapped, unmapped, total := 0, 0, 0
	for page, in := range p.mapped {
		switch inside := page >= c.A && page <= c.B; {
		case in && inside:
			mapped++
		case inside:
			unmapped++
		}
		if in {
			total++
		}
	}
	switch {
	case blocked && c.Kind != api.DoKill:
		return api.ErrBusy
	case c.Kind == api.DoSpawn && p.alive:
		return api.ErrExists
	case c.Kind != api.DoSpawn && !p.alive:
		return api.ErrDead
	case c.Kind == api.DoMap && mapped > 0:
		return api.ErrExists
	case c.Kind == api.DoMap && total+unmapped > m.c.MapCap:
		return api.ErrFull
	case c.Kind == api.DoUnmap && unmapped > 0:
		return api.ErrMissing
	case c.Kind == api.DoFork && (m.procs[c.A].alive || m.request(c.A) >= 0):
		return api.ErrExists
	}
	return api.OK
}

// change does DoMap and DoUnmap.
func (m *machine) change(c api.Command) {
	p := &m.procs[c.Proc]
	kind := api.Mapped
	for page := c.A; page <= c.B; page++ {
		p.mapped[page] = c.Kind == api.DoMap
		if c.Kind == api.DoMap {
			continue
		}
		kind = api.Unmapped
		m.clear(&p.entries[page])
		group := page / 8
		none := !slices.ContainsFunc(p.entries[8*group:8*group+8], func(e api.Entry) bool { return e.Kind != api.None })
		if none && p.leaves[group] >= 0 {
			m.give(p.leaves[group])
			p.leaves[group] = -1
		}
	}
	m.tell(api.Outcome{Kind: kind, Proc: c.Proc, Page: c.A, Other: c.B})
}

func (m *machine) look() {
	if m.free() < m.c.LowMark {
		m.awake = true
	}
	if m.free() >= m.c.High {
		m.awake = false
	}
}

func (m *machine) round() {
	for range len(m.jobs) {
		m.complete(0)
		m.look()
	}
	var blocked []int
	for p := 1; p <= 8; p++ {
		if m.request(p) >= 0 {
			blocked = append(blocked, p)
		}
	}
	for _, p := range append(blocked, 0) {
		m.pick(p)
		m.look()
	}
}

func (m *machine) complete(i int) {
	j := m.jobs[i]
	m.jobs = slices.Delete(m.jobs, i, i+1)
	if j.write {
		m.disk[j.slot] = j.data
		m.drop(0, j.note)
	} else {
		j.data = m.disk[j.slot]
	}
	if j.proc == 0 {
		m.give(j.frame)
		return
	}
	r := m.requests[m.request(j.proc)]
	keep := 0
	if !j.write {
		keep = 1
	}
	m.done(j.proc, keep)
	m.enter(j.frame, j.data)
	m.procs[j.proc].entries[r.Command.A] = api.Entry{Kind: api.Present, Number: j.frame, Writable: true}
	m.word(r.Command, j.frame, r.Ticket)
}

// writable says whether a frame can be written out, if there is one.
func (m *machine) writable() bool {
	return m.writes() < m.c.Cap && len(m.jobs) < m.c.Queue && len(m.freeSlots()) > 0
}

func (m *machine) writeOut(frame int) {
	slot := m.freeSlots()[0]
	m.entries(func(_, _ int, e *api.Entry) {
		if e.Kind == api.Present && e.Number == frame {
			*e = api.Entry{Kind: api.Swapped, Number: slot}
		}
	})
	m.unlist(frame)
	m.jobs = append(m.jobs, job{write: true, slot: slot, frame: frame, data: m.content[frame], note: m.put(0)})
	m.roles[frame] = api.WritingFrame
}

func (m *machine) shrink() {
	for range min(4, len(m.objects)) {
		o := m.objects[0]
		m.objects = m.objects[1:]
		m.drop(o[0], o[1])
	}
}

// direct is a direct reclaim step.
func (m *machine) direct() {
	order := slices.Concat(m.active, m.inactive)
	switch {
	case len(m.objects) > 0:
		m.shrink()
	case len(order) > 0 && m.writable():
		m.writeOut(order[len(order)-1])
	case m.writes() > 0 || slices.Contains(m.roles, api.Orphan):
	default:
		victim, most := 0, -1
		for p := 1; p <= 8; p++ {
			n := 0
			for _, e := range m.procs[p].entries {
				if e.Kind != api.None {
					n++
				}
			}
			if m.procs[p].alive && n > most {
				victim, most = p, n
			}
		}
		if victim > 0 {
			m.kill(victim)
		}
	}
}

// kswapd is a pick of process 0.
func (m *machine) kswapd() {
	n := len(m.active) + len(m.inactive)
	ratio := 1
	for (ratio+1)*(ratio+1)*4 <= n {
		ratio++
	}
	target := (n + ratio) / (ratio + 1)
	last := -1
	if k := len(m.inactive); k > 0 {
		last = m.inactive[k-1]
	}
	switch {
	case !m.awake:
	case len(m.objects) > 0:
		m.shrink()
	case len(m.active) > 0 && len(m.inactive) < target:
		f := m.active[len(m.active)-1]
		m.unlist(f)
		m.inactive = append([]int{f}, m.inactive...)
	case last >= 0 && m.referenced[last]:
		m.unlist(last)
		m.active = append([]int{last}, m.active...)
	case last >= 0 && m.writable():
		m.writeOut(last)
	}
}

// pick picks a process.
func (m *machine) pick(p int) {
	if p == 0 {
		m.kswapd()
		return
	}
	if len(m.requests) == 0 || m.requests[0].Command.Proc != p {
		return
	}
	r := &m.requests[0]
	c := r.Command
	child := m.procs[c.A%9].alive || m.request(c.A) >= 0
	access := c.Kind == api.DoRead || c.Kind == api.DoWrite
	switch {
	case c.Kind == api.DoFork && child:
		m.tell(api.Outcome{Kind: api.Refused, Proc: p, Ticket: r.Ticket, Value: uint64(api.ErrExists)})
		m.done(p, 0)
	case access:
		m.serve(r)
	case c.Kind == api.DoSpawn && len(r.Frames) == 1:
		root := r.Frames[0]
		m.roles[root] = api.TableFrame
		m.procs[p].alive, m.procs[p].root = true, root
		m.tell(api.Outcome{Kind: api.Spawned, Proc: p, Ticket: r.Ticket})
		m.done(p, 1)
	case c.Kind == api.DoFork && len(r.Frames) == 1+m.leaves(p):
		m.forked(*r)
	case m.free() > m.c.Min:
		r.State, r.Frames = api.Holds, append(r.Frames, m.take(0, api.Reserved))
	default:
		m.direct()
	}
}

func (m *machine) leaves(p int) (n int) {
	for _, f := range m.procs[p].leaves {
		if f >= 0 {
			n++
		}
	}
	return n
}

func (m *machine) forked(r api.Request) {
	c := r.Command
	p, q := &m.procs[c.Proc], dead()
	q.alive, q.root, q.mapped = true, r.Frames[0], p.mapped
	frames := r.Frames[1:]
	for i, f := range p.leaves {
		if f >= 0 {
			q.leaves[i], frames = frames[0], frames[1:]
		}
	}
	for _, f := range r.Frames {
		m.roles[f] = api.TableFrame
	}
	for page, e := range p.entries {
		if e.Kind == api.Present {
			e.Writable, e.Cow = false, true
		}
		p.entries[page], q.entries[page] = e, e
	}
	m.procs[c.A] = q
	m.tell(api.Outcome{Kind: api.Forked, Proc: c.Proc, Other: c.A, Ticket: r.Ticket})
	m.done(c.Proc, 9)
}

// serve does a service step of an access.
func (m *machine) serve(r *api.Request) {
	c := r.Command
	p := &m.procs[c.Proc]
	e := p.entries[c.A]
	job := -1
	if e.Kind == api.Swapped {
		job = m.busy(e.Number)
	}
	if e.Kind == api.Present || e.Kind == api.None && c.Kind == api.DoRead {
		if m.now(c, r.Ticket) {
			m.done(c.Proc, 0)
			return
		}
	}
	switch {
	case r.State >= api.Claims:
	case p.leaves[c.A/8] < 0:
		if m.free() <= m.c.Min {
			m.direct()
			return
		}
		p.leaves[c.A/8] = m.take(0, api.TableFrame)
	case job >= 0 && m.jobs[job].write:
		m.jobs[job].proc = c.Proc
		r.State, r.Slot = api.Claims, e.Number
	case len(r.Frames) == 0:
		if m.free() <= m.c.Min {
			m.direct()
			return
		}
		r.State, r.Frames = api.Holds, []int{m.take(1, api.Reserved)}
	case e.Kind == api.Swapped:
		if job < 0 && len(m.jobs) < m.c.Queue {
			m.jobs = append(m.jobs, newRead(e.Number, r.Frames[0], c.Proc))
			r.State, r.Slot = api.Reading, e.Number
		}
	default:
		m.own(*r, e)
	}
}

func newRead(slot, frame, proc int) job { return job{slot: slot, frame: frame, proc: proc} }

// own maps the frame that a request holds for a write.
func (m *machine) own(r api.Request, e api.Entry) {
	c, frame := r.Command, r.Frames[0]
	content := api.Content{}
	if e.Kind == api.Present {
		content = m.content[e.Number]
	}
	m.done(c.Proc, 1)
	m.enter(frame, content)
	m.procs[c.Proc].entries[c.A] = api.Entry{Kind: api.Present, Number: frame, Writable: true}
	m.word(c, frame, r.Ticket)
}
