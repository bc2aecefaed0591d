package kernel

import (
	"headgate/api"
	"headgate/shrink"
)

// cloneSlice returns a copy of a slice.
func cloneSlice[S ~[]E, E any](l S) S { return append(S(nil), l...) }

// cloneMap returns a copy of a map, whose values f copies.
func cloneMap[M ~map[K]V, K comparable, V any](m M, f func(v V) V) M {
	c := make(M, len(m))
	for key, v := range m {
		c[key] = f(v)
	}
	return c
}

// same returns a value that has no parts to be copied.
func same[T any](v T) T { return v }

// Snapshot returns the whole machine at this moment.
func (k *Kernel) Snapshot() api.Snapshot {
	if !k.valid() {
		return api.Snapshot{}
	}
	s := api.Snapshot{
		Config: k.config, Roles: cloneSlice(k.roles), Refs: cloneSlice(k.maps),
		Referenced: cloneSlice(k.lists.Referenced), Procs: k.views(),
		Slots: cloneSlice(k.swap.Slots.Refs), Writes: cloneSlice(k.swap.Writes),
		Active: cloneSlice(k.lists.Active), Inactive: cloneSlice(k.lists.Inactive),
		Next: k.queue.Next, Awake: k.awake,
	}
	s.Objects, _ = shrink.Counts(k.objects)
	for _, slab := range k.caches[entryStore] {
		s.WriteSlabs = append(s.WriteSlabs, slab.Frame)
	}
	for _, j := range k.swap.Disk.Jobs {
		s.Pending = append(s.Pending, api.Pending{Write: j.Write, Slot: j.Slot, Frame: j.Frame})
	}
	for _, t := range k.queue.Waiting {
		s.Requests = append(s.Requests, cloneRequest(k.requests[t.Proc]))
	}
	return s
}

// cloneRequest returns a copy of a request.
func cloneRequest(r api.Request) api.Request {
	r.Frames = cloneSlice(r.Frames)
	return r
}

// views returns the processes as they can be looked at.
func (k *Kernel) views() []api.ProcView {
	var l []api.ProcView
	for proc := 1; proc <= api.MaxProcs; proc++ {
		s := k.spaces[proc]
		l = append(l, api.ProcView{
			State: k.state(proc), Root: s.Table.Root, Leaves: [api.Leaves]int(s.Table.Leaves),
			Regions: cloneSlice(s.Regions), Entries: [api.Pages]uint64(s.Table.Entries),
		})
	}
	return l
}

// Copy returns an independent kernel that is equal.
func (k *Kernel) Copy() *Kernel {
	if !k.valid() {
		return nil
	}
	c := &Kernel{config: k.config, awake: k.awake, memory: k.memory.clone(), stores: k.stores.clone(), swapping: k.swapping.clone(), processes: k.processes.clone()}
	c.self = c
	return c
}

// clone returns a copy of the frames.
func (m *memory) clone() memory {
	z := api.Zones{Low: m.zones.Low}
	for _, b := range m.zones.Zones {
		z.Zones = append(z.Zones, api.Buddy{Frames: b.Frames, Free: cloneSlice(b.Free)})
	}
	l := api.Lists{Active: cloneSlice(m.lists.Active), Inactive: cloneSlice(m.lists.Inactive), Referenced: cloneSlice(m.lists.Referenced)}
	return memory{z, cloneSlice(m.roles), cloneSlice(m.contents), cloneSlice(m.maps), l}
}

// clone returns a copy of the stores.
func (s *stores) clone() stores {
	c := stores{objects: cloneSlice(s.objects)}
	for i, slabs := range s.caches {
		c.caches[i] = cloneSlice(slabs)
	}
	return c
}

// clone returns a copy of the way to the disk.
func (s *swapping) clone() swapping {
	old := s.swap
	c := api.Swap{Cap: old.Cap, Writes: cloneSlice(old.Writes), Reads: cloneSlice(old.Reads), Desc: cloneSlice(old.Desc)}
	c.Slots = api.Slots{Refs: cloneSlice(old.Slots.Refs), Busy: cloneSlice(old.Slots.Busy)}
	c.Disk = api.Disk{Slots: cloneSlice(old.Disk.Slots), Jobs: cloneSlice(old.Disk.Jobs), Room: old.Disk.Room}
	c.Pool = api.Pool{Size: old.Pool.Size, Free: cloneSlice(old.Pool.Free)}
	return swapping{c, cloneMap(s.notes, same)}
}

// clone returns a copy of the processes.
func (p *processes) clone() processes {
	c := processes{alive: p.alive, queue: api.Queue{Next: p.queue.Next, Waiting: cloneSlice(p.queue.Waiting)}, requests: cloneMap(p.requests, cloneRequest)}
	for proc, s := range p.spaces {
		t := api.Table{Root: s.Table.Root, Leaves: cloneSlice(s.Table.Leaves), Entries: cloneSlice(s.Table.Entries)}
		c.spaces[proc] = api.AddressSpace{Regions: cloneSlice(s.Regions), Table: t}
	}
	return c
}
