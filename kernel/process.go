package kernel

import (
	"headgate/api"
	"headgate/queue"
	"headgate/space"
	"headgate/swap"
	"headgate/table"
)

// processes are the address spaces, who lives, the queue of tickets, and the request of each process that waits.
type processes struct {
	spaces   [api.MaxProcs + 1]api.AddressSpace
	alive    [api.MaxProcs + 1]bool
	queue    api.Queue
	requests map[int]api.Request
}

// bare returns the address space of a process that is dead.
func bare() api.AddressSpace {
	t, _ := table.New(noFrame)
	return api.AddressSpace{Table: t}
}

// state returns the state of a process.
func (p *processes) state(proc int) int {
	switch _, waits := p.requests[proc]; {
	case waits:
		return api.Blocked
	case p.alive[proc]:
		return api.Live
	}
	return api.Dead
}

// spawning says whether a process waits for its spawning.
func (p *processes) spawning(proc int) bool {
	return p.state(proc) == api.Blocked && !p.alive[proc]
}

// set gives a mapped page an entry.
func (p *processes) set(proc, page int, e api.Entry) {
	if s, err := space.Set(p.spaces[proc], page, e); err == api.OK {
		p.spaces[proc] = s
	}
}

// ask makes a command a request.
func (k *Kernel) ask(c api.Command) ([]api.Outcome, api.Errno) {
	q, ticket, err := queue.Push(k.queue, c.Proc)
	if err != api.OK {
		return nil, err
	}
	k.queue = q
	k.requests[c.Proc] = api.Request{Ticket: ticket, Command: c, State: api.Wants}
	return []api.Outcome{{Kind: api.Queued, Proc: c.Proc, Ticket: ticket}}, api.OK
}

// mapPages does DoMap.
func (k *Kernel) mapPages(c api.Command) ([]api.Outcome, api.Errno) {
	s, err := space.Map(k.spaces[c.Proc], c.A, c.B, k.config.MapCap)
	if err != api.OK {
		return nil, err
	}
	k.spaces[c.Proc] = s
	return []api.Outcome{{Kind: api.Mapped, Proc: c.Proc, Page: c.A, Other: c.B}}, api.OK
}

// unmapPages does DoUnmap.
func (k *Kernel) unmapPages(c api.Command) ([]api.Outcome, api.Errno) {
	s, lost, err := space.Unmap(k.spaces[c.Proc], c.A, c.B)
	if err != api.OK {
		return nil, err
	}
	k.spaces[c.Proc] = s
	k.lose(lost)
	return []api.Outcome{{Kind: api.Unmapped, Proc: c.Proc, Page: c.A, Other: c.B}}, api.OK
}

// lose takes from frames and slots what an address space lost.
func (k *Kernel) lose(lost []api.Lost) {
	for _, l := range lost {
		switch l.Entry.Kind {
		case api.Present:
			k.unmapOnce(l.Entry.Number)
		case api.Swapped:
			if s, _, err := swap.Unref(k.swap, l.Entry.Number); err == api.OK {
				k.swap = s
			}
		}
		if l.Leaf != noFrame {
			k.give(l.Leaf)
		}
	}
}

// access does DoRead or DoWrite, at once or as a request.
func (k *Kernel) access(c api.Command) ([]api.Outcome, api.Errno) {
	switch find := k.finds(c); find {
	case api.Faulty:
		return []api.Outcome{{Kind: api.Segv, Proc: c.Proc, Page: c.A, Word: c.B}}, api.OK
	case api.Zero, api.Ready, api.Own:
		return []api.Outcome{k.atOnce(c, find, 0)}, api.OK
	}
	return k.ask(c)
}

// finds returns what an access finds.
func (k *Kernel) finds(c api.Command) int {
	count := 0
	if e := k.entry(c.Proc, c.A); e.Kind == api.Present {
		count = k.maps[e.Number]
	}
	find, _ := space.Access(k.spaces[c.Proc], c.A, c.Kind == api.DoWrite, count)
	return find
}

// atOnce does an access that needs nothing any more.
func (k *Kernel) atOnce(c api.Command, find int, ticket uint64) api.Outcome {
	if find == api.Zero {
		return api.Outcome{Kind: api.Read, Proc: c.Proc, Page: c.A, Word: c.B, Ticket: ticket}
	}
	frame := k.entry(c.Proc, c.A).Number
	if find == api.Own {
		k.set(c.Proc, c.A, api.Entry{Kind: api.Present, Number: frame, Writable: true})
	}
	k.touch(frame)
	return k.word(c, frame, ticket)
}

// word reads or writes a word of a frame.
func (k *Kernel) word(c api.Command, frame int, ticket uint64) api.Outcome {
	o := api.Outcome{Kind: api.Read, Proc: c.Proc, Page: c.A, Word: c.B, Ticket: ticket}
	if c.Kind == api.DoWrite {
		o.Kind = api.Written
		k.contents[frame][c.B] = c.Value
	}
	o.Value = k.contents[frame][c.B]
	return o
}

// fork does DoFork.
func (k *Kernel) fork(c api.Command) ([]api.Outcome, api.Errno) {
	if k.state(c.A) != api.Dead {
		return nil, api.ErrExists
	}
	return k.ask(c)
}

// exit does DoExit.
func (k *Kernel) exit(c api.Command) ([]api.Outcome, api.Errno) {
	k.apart(c.Proc)
	return []api.Outcome{{Kind: api.Exited, Proc: c.Proc}}, api.OK
}

// kill does DoKill.
func (k *Kernel) kill(c api.Command) ([]api.Outcome, api.Errno) {
	return []api.Outcome{k.killed(c.Proc)}, api.OK
}

// killed kills a process.
func (k *Kernel) killed(proc int) api.Outcome {
	o := api.Outcome{Kind: api.Killed, Proc: proc, Ticket: k.requests[proc].Ticket}
	k.apart(proc)
	return o
}

// apart takes a process apart.
func (k *Kernel) apart(proc int) {
	r, waits := k.requests[proc]
	// First it stops waiting for the disk: a slot for which somebody waits keeps its last reference.
	if waits {
		if s, _, err := swap.Kill(k.swap, proc); err == api.OK {
			k.swap = s
		}
	}
	s, lost, frames, err := space.Empty(k.spaces[proc])
	if err == api.OK {
		k.spaces[proc] = s
		k.lose(lost)
		k.give(frames...)
	}
	k.alive[proc] = false
	if !waits {
		return
	}
	if r.State == api.Reading {
		k.turn(r.Frames[0], api.Orphan)
	} else {
		k.give(r.Frames...)
	}
	if q, _, err := queue.Drop(k.queue, proc); err == api.OK {
		k.queue = q
	}
	delete(k.requests, proc)
}
