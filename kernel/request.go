package kernel

import (
	"headgate/api"
	"headgate/disk"
	"headgate/fault"
	"headgate/fork"
	"headgate/held"
	"headgate/queue"
	"headgate/space"
	"headgate/swap"
	"headgate/table"
)

// pick does DoPick.
func (k *Kernel) pick(c api.Command) ([]api.Outcome, api.Errno) {
	if c.Proc == 0 {
		k.background()
		return nil, api.OK
	}
	if head, err := queue.Head(k.queue); err != api.OK || head.Proc != c.Proc {
		return nil, api.OK
	}
	return k.serve(k.requests[c.Proc]), api.OK
}

// serve does a service step of the head.
func (k *Kernel) serve(r api.Request) []api.Outcome {
	f := k.facts(r)
	next, _ := fault.Next(r, f)
	switch next {
	case api.Resolve:
		return []api.Outcome{k.resolve(r, f)}
	case api.Refuse:
		k.done(r)
		return []api.Outcome{{Kind: api.Refused, Proc: r.Command.Proc, Ticket: r.Ticket, Value: uint64(api.ErrExists)}}
	case api.GetTable, api.GetPage:
		if k.free() <= k.config.Min {
			return k.direct()
		}
		k.getFrame(r, next == api.GetPage)
	case api.ClaimIt:
		k.claim(r)
	case api.StartRead:
		k.startRead(r)
	}
	return nil
}

// facts returns what a request looks at.
func (k *Kernel) facts(r api.Request) api.Facts {
	c := r.Command
	switch c.Kind {
	case api.DoFork:
		needs, _ := fork.Needs(k.spaces[c.Proc])
		return api.Facts{Leaves: max(needs-1, 0), Free: k.state(c.A) == api.Dead}
	case api.DoRead, api.DoWrite:
		f := api.Facts{Access: k.finds(c)}
		if f.Access == api.Fetch {
			slot := k.entry(c.Proc, c.A).Number
			_, err := held.Find(k.swap.Writes, slot)
			left, _ := disk.Left(k.swap.Disk)
			f.Writing = err == api.OK
			f.Room = left > 0 && !k.swap.Slots.Busy[slot]
		}
		return f
	}
	return api.Facts{}
}

// getFrame takes a frame for a request: a leaf becomes one at once, all others are held.
func (k *Kernel) getFrame(r api.Request, page bool) {
	c := r.Command
	if page {
		k.hold(r, k.takeFrom(pageZone, api.Reserved))
		return
	}
	if c.Kind == api.DoSpawn || c.Kind == api.DoFork {
		k.hold(r, k.take(api.Reserved))
		return
	}
	s := &k.spaces[c.Proc]
	if t, err := table.SetLeaf(s.Table, c.A/api.PerLeaf, k.take(api.TableFrame)); err == api.OK {
		s.Table = t
	}
}

// hold lets a request hold a frame.
func (k *Kernel) hold(r api.Request, frame int) {
	if with, err := fault.Give(r, frame); err == api.OK {
		k.requests[r.Command.Proc] = with
	}
}

// claim lets a request wait for the write of its slot.
func (k *Kernel) claim(r api.Request) {
	proc := r.Command.Proc
	slot := k.entry(proc, r.Command.A).Number
	with, err := fault.Claim(r, slot)
	if err != api.OK {
		return
	}
	if s, err := swap.Claim(k.swap, slot, proc); err == api.OK {
		k.swap, k.requests[proc] = s, with
	}
}

// startRead puts the read of the slot of a request into the queue of the disk.
func (k *Kernel) startRead(r api.Request) {
	proc := r.Command.Proc
	slot := k.entry(proc, r.Command.A).Number
	with, err := fault.Read(r, slot)
	if err != api.OK {
		return
	}
	if s, err := swap.ReadIn(k.swap, slot, r.Frames[0], proc); err == api.OK {
		k.swap, k.requests[proc] = s, with
	}
}

// done ends a request; frames are those that it does not hold any more.
func (k *Kernel) done(r api.Request, frames ...int) {
	for _, frame := range r.Frames {
		if !contains(frames, frame) {
			k.give(frame)
		}
	}
	if q, _, err := queue.Done(k.queue, r.Ticket); err == api.OK {
		k.queue = q
	}
	delete(k.requests, r.Command.Proc)
}

// contains says whether a list has an element.
func contains[T comparable](l []T, x T) bool {
	for _, y := range l {
		if x == y {
			return true
		}
	}
	return false
}

// resolve does what a request is about.
func (k *Kernel) resolve(r api.Request, f api.Facts) api.Outcome {
	c := r.Command
	switch {
	case c.Kind == api.DoSpawn:
		return k.spawned(r)
	case c.Kind == api.DoFork:
		return k.forked(r, f.Leaves+1)
	case f.Access == api.Fill:
		return k.fill(r, api.Content{})
	case f.Access == api.Copy:
		old := k.entry(c.Proc, c.A).Number
		o := k.fill(r, k.contents[old])
		k.unmapOnce(old)
		return o
	}
	k.done(r)
	return k.atOnce(c, f.Access, r.Ticket)
}

// spawned ends a spawning.
func (k *Kernel) spawned(r api.Request) api.Outcome {
	proc, root := r.Command.Proc, r.Frames[0]
	k.turn(root, api.TableFrame)
	if t, err := table.New(root); err == api.OK {
		k.spaces[proc] = api.AddressSpace{Table: t}
	}
	k.alive[proc] = true
	k.done(r, root)
	return api.Outcome{Kind: api.Spawned, Proc: proc, Ticket: r.Ticket}
}

// forked ends a fork that needs some of its frames.
func (k *Kernel) forked(r api.Request, needs int) api.Outcome {
	c := r.Command
	used := r.Frames[:needs]
	frames, slots, _ := fork.Shared(k.spaces[c.Proc])
	if parent, child, err := fork.Fork(k.spaces[c.Proc], used); err == api.OK {
		k.spaces[c.Proc], k.spaces[c.A] = parent, child
		k.alive[c.A] = true
		for _, frame := range frames {
			k.maps[frame]++
		}
		for _, slot := range slots {
			if s, err := swap.Ref(k.swap, slot); err == api.OK {
				k.swap = s
			}
		}
		for _, frame := range used {
			k.turn(frame, api.TableFrame)
		}
	}
	k.done(r, used...)
	return api.Outcome{Kind: api.Forked, Proc: c.Proc, Other: c.A, Ticket: r.Ticket}
}

// fill maps the frame that a request holds, with a content, and does the access.
func (k *Kernel) fill(r api.Request, content api.Content) api.Outcome {
	frame := r.Frames[0]
	k.done(r, frame)
	return k.arrive(r, frame, content)
}

// arrive maps a frame for a request that is done, and does the access.
func (k *Kernel) arrive(r api.Request, frame int, content api.Content) api.Outcome {
	c := r.Command
	k.enter(frame, content)
	k.set(c.Proc, c.A, api.Entry{Kind: api.Present, Number: frame, Writable: true})
	return k.word(c, frame, r.Ticket)
}

// swapping is the way to the disk and back, and the write entry of each slot that is being written.
type swapping struct {
	swap  api.Swap
	notes map[int]int
}

// writeOut writes a mapped frame out.
func (k *Kernel) writeOut(frame int) {
	s, slot, err := swap.WriteOut(k.swap, frame, k.maps[frame], k.contents[frame])
	if err != api.OK {
		return
	}
	k.swap = s
	k.notes[slot] = k.put(entryStore, &k.memory)
	for proc := range k.spaces {
		if s, n, err := space.Moved(k.spaces[proc], frame, slot); err == api.OK && n > 0 {
			k.spaces[proc] = s
		}
	}
	k.leave(frame)
	k.turn(frame, api.WritingFrame)
}

// complete does DoComplete.
func (k *Kernel) complete(c api.Command) ([]api.Outcome, api.Errno) {
	s, done, err := swap.Complete(k.swap, c.A)
	if err != api.OK {
		return nil, err
	}
	k.swap = s
	if done.Write {
		k.drop(entryStore, k.notes[done.Slot], &k.memory)
		delete(k.notes, done.Slot)
	}
	if done.Proc == 0 {
		k.give(done.Frame)
		return nil, api.OK
	}
	r := k.requests[done.Proc]
	k.done(r, done.Frame)
	return []api.Outcome{k.arrive(r, done.Frame, done.Data)}, api.OK
}
