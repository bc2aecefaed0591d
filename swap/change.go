package swap

import (
	"slices"

	"headgate/api"
	"headgate/disk"
	"headgate/held"
	"headgate/pool"
	"headgate/slots"
)

// copied is a swap that shares no memory with others, and may be changed.
type copied struct {
	api.Swap
}

// open returns a copy of a swap.
func open(s api.Swap) *copied {
	c := &copied{s}
	c.Slots = api.Slots{Refs: slices.Clone(s.Slots.Refs), Busy: slices.Clone(s.Slots.Busy)}
	c.Writes, c.Reads, c.Desc = slices.Clone(s.Writes), slices.Clone(s.Reads), slices.Clone(s.Desc)
	c.Disk = api.Disk{Slots: slices.Clone(s.Disk.Slots), Jobs: slices.Clone(s.Disk.Jobs), Room: s.Disk.Room}
	c.Pool = api.Pool{Size: s.Pool.Size, Free: slices.Clone(s.Pool.Free)}
	return c
}

// close returns the changed swap, or its zero value with an error.
func (c *copied) close(err api.Errno) (api.Swap, api.Errno) {
	if err != api.OK {
		return api.Swap{}, err
	}
	return c.Swap, api.OK
}

// describe takes a descriptor for the youngest job.
func (c *copied) describe() (err api.Errno) {
	var desc int
	if c.Pool, desc, err = pool.Take(c.Pool); err == api.OK {
		c.Desc = append(c.Desc, desc)
	}
	return err
}

// WriteOut begins a write of data from a frame into the least free slot, and returns this slot, too.
func WriteOut(s api.Swap, frame, refs int, data api.Content) (api.Swap, int, api.Errno) {
	hinders, err := Hinders(s)
	switch {
	case err != api.OK:
		return api.Swap{}, 0, err
	case !isFrame(frame):
		return api.Swap{}, 0, api.ErrRange
	case refs < 1 || refs > api.MaxRefs:
		return api.Swap{}, 0, api.ErrCount
	case hasFrame(s, frame):
		return api.Swap{}, 0, api.ErrBusy
	case len(hinders) > 0:
		return api.Swap{}, 0, api.ErrFull
	}
	c := open(s)
	slot, err := c.write(frame, refs, data)
	after, err := c.close(err)
	return after, slot, err
}

// write does what WriteOut says, if nothing hinders it.
func (c *copied) write(frame, refs int, data api.Content) (slot int, err api.Errno) {
	if c.Slots, slot, err = slots.Alloc(c.Slots, refs); err != api.OK {
		return 0, err
	}
	if c.Writes, err = held.Add(c.Writes, slot, frame); err != api.OK {
		return 0, err
	}
	if c.Disk, err = disk.Write(c.Disk, slot, frame, data); err != api.OK {
		return 0, err
	}
	return slot, c.describe()
}

// checkWaiter checks whether a process may begin to wait for a slot; frame is where it would be read to.
func checkWaiter(s api.Swap, slot, frame, proc int) api.Errno {
	if err := Check(s); err != api.OK {
		return err
	}
	if slot < 0 || slot >= len(s.Slots.Refs) || !isFrame(frame) || !isProc(proc) {
		return api.ErrRange
	}
	m, _ := waits(s)
	if _, waiting := m[proc]; waiting {
		return api.ErrExists
	}
	if s.Slots.Refs[slot] == 0 {
		return api.ErrState
	}
	return api.OK
}

// ReadIn begins a read of a slot into a frame, for which a process waits.
func ReadIn(s api.Swap, slot, frame, proc int) (api.Swap, api.Errno) {
	if err := checkWaiter(s, slot, frame, proc); err != api.OK {
		return api.Swap{}, err
	}
	if s.Slots.Busy[slot] || hasFrame(s, frame) {
		return api.Swap{}, api.ErrBusy
	}
	if len(s.Disk.Jobs) == s.Disk.Room {
		return api.Swap{}, api.ErrFull
	}
	c := open(s)
	return c.close(c.read(slot, frame, proc))
}

// read does what ReadIn says, if it may be.
func (c *copied) read(slot, frame, proc int) (err api.Errno) {
	if c.Slots, err = slots.Start(c.Slots, slot); err != api.OK {
		return err
	}
	if c.Disk, err = disk.Read(c.Disk, slot, frame); err != api.OK {
		return err
	}
	c.Reads = append(c.Reads, api.ReadView{Slot: slot, Frame: frame, Proc: proc})
	return c.describe()
}

// Claim lets a process wait for the write of a slot.
func Claim(s api.Swap, slot, proc int) (api.Swap, api.Errno) {
	if err := checkWaiter(s, slot, 0, proc); err != api.OK {
		return api.Swap{}, err
	}
	c := open(s)
	var err api.Errno
	if c.Writes, err = held.Claim(c.Writes, slot, proc); err == api.ErrState {
		err = api.ErrBusy
	}
	return c.close(err)
}

// Kill ends the waiting of a process, and returns whether it did wait.
func Kill(s api.Swap, proc int) (api.Swap, bool, api.Errno) {
	if err := Check(s); err != api.OK {
		return api.Swap{}, false, err
	}
	if !isProc(proc) {
		return api.Swap{}, false, api.ErrRange
	}
	m, _ := waits(s)
	t, waiting := m[proc]
	c := open(s)
	if waiting && t.read {
		c.Reads[c.reading(t.slot)].Proc = nobody
	}
	var err api.Errno
	c.Writes, _, err = held.Unclaim(c.Writes, proc)
	after, err := c.close(err)
	return after, waiting && err == api.OK, err
}

// reading returns the number of the read of a slot.
func (c *copied) reading(slot int) int {
	return slices.IndexFunc(c.Reads, func(r api.ReadView) bool { return r.Slot == slot })
}

// Complete ends a job, and returns what it was.
func Complete(s api.Swap, i int) (api.Swap, api.SwapDone, api.Errno) {
	if err := Check(s); err != api.OK {
		return api.Swap{}, api.SwapDone{}, err
	}
	if i < 0 || i >= len(s.Disk.Jobs) {
		return api.Swap{}, api.SwapDone{}, api.ErrMissing
	}
	c := open(s)
	done, err := c.complete(i)
	after, err := c.close(err)
	if err != api.OK {
		return api.Swap{}, api.SwapDone{}, err
	}
	return after, done, api.OK
}

// complete ends the job of a number.
func (c *copied) complete(i int) (done api.SwapDone, err api.Errno) {
	var job api.Job
	if c.Disk, job, err = disk.Complete(c.Disk, i); err != api.OK {
		return done, err
	}
	done = api.SwapDone{Write: job.Write, Slot: job.Slot, Frame: job.Frame, Data: job.Data}
	if c.Pool, err = pool.Give(c.Pool, c.Desc[i]); err != api.OK {
		return done, err
	}
	c.Desc = slices.Delete(c.Desc, i, i+1)
	if job.Write {
		var w api.WriteView
		c.Writes, w, err = held.Remove(c.Writes, job.Slot)
		done.Proc = w.Claim
	} else {
		at := c.reading(job.Slot)
		done.Proc = c.Reads[at].Proc
		c.Reads = slices.Delete(c.Reads, at, at+1)
	}
	if err != api.OK {
		return done, err
	}
	return done, c.settle(job.Slot, done.Proc != nobody)
}

// settle ends that a slot is busy; if somebody waited for it, it loses a reference.
func (c *copied) settle(slot int, waited bool) (err api.Errno) {
	if c.Slots, _, err = slots.Settle(c.Slots, slot); err == api.OK && waited {
		c.Slots, _, err = slots.Unref(c.Slots, slot)
	}
	return err
}

// Ref returns the swap with a reference more to a slot.
func Ref(s api.Swap, slot int) (api.Swap, api.Errno) {
	if err := Check(s); err != api.OK {
		return api.Swap{}, err
	}
	c := open(s)
	var err api.Errno
	c.Slots, err = slots.Ref(c.Slots, slot)
	return c.close(err)
}

// Unref returns the swap with a reference less to a slot, and whether this is free now.
func Unref(s api.Swap, slot int) (api.Swap, bool, api.Errno) {
	if err := Check(s); err != api.OK {
		return api.Swap{}, false, err
	}
	c := open(s)
	var free bool
	var err api.Errno
	c.Slots, free, err = slots.Unref(c.Slots, slot)
	if err == api.OK && !awaited(c.Swap) {
		err = api.ErrState
	}
	after, err := c.close(err)
	return after, free && err == api.OK, err
}
