package audit

import (
	"iter"
	"maps"
	"slices"

	"headgate/api"
	"headgate/entry"
)

// use is a use of a frame: what for.
type use struct {
	frame, role int
}

// look is a snapshot in form, and what its entries say: the uses of frames, how many entries are Present with each frame, and Swapped to each slot.
type look struct {
	api.Snapshot
	uses    map[use]int
	present map[int]int
	swapped map[int]int
}

// entries yields the entries of all processes that are not None, with their places.
func entries(s api.Snapshot) iter.Seq2[api.Place, api.Entry] {
	return func(yield func(api.Place, api.Entry) bool) {
		for i, p := range s.Procs {
			for page, w := range p.Entries {
				e, _ := entry.Unpack(w)
				if e.Kind != api.None && !yield(api.Place{Proc: i + 1, Page: page}, e) {
					return
				}
			}
		}
	}
}

// open looks through a snapshot.
func open(s api.Snapshot) *look {
	l := &look{s, map[use]int{}, map[int]int{}, map[int]int{}}
	for _, e := range entries(s) {
		if e.Kind == api.Present {
			l.present[e.Number]++
			l.uses[use{e.Number, api.MappedFrame}] = 1
		} else {
			l.swapped[e.Number]++
		}
	}
	for _, p := range s.Procs {
		for _, frame := range append([]int{p.Root}, p.Leaves[:]...) {
			l.uses[use{frame, api.TableFrame}]++
		}
	}
	for _, w := range s.Writes {
		l.uses[use{w.Frame, api.WritingFrame}]++
	}
	for _, r := range s.Requests {
		for _, frame := range r.Frames {
			l.uses[use{frame, api.Reserved}]++
		}
	}
	for _, p := range s.Pending {
		if !p.Write && l.uses[use{p.Frame, api.Reserved}] == 0 {
			l.uses[use{p.Frame, api.Orphan}]++
		}
	}
	return l
}

// roles returns the uses of a frame as roles, ascending.
func (l *look) roles(frame int) []int {
	var roles []int
	for role := api.TableFrame; role <= api.Orphan; role++ {
		roles = append(roles, slices.Repeat([]int{role}, l.uses[use{frame, role}])...)
	}
	return roles
}

// count returns how many frames have a role.
func (l *look) count(role int) int {
	n := 0
	for _, r := range l.Roles {
		if r == role {
			n++
		}
	}
	return n
}

// backed returns how many Free frames and write slabs there are.
func (l *look) backed() int { return l.count(api.Free) + len(l.WriteSlabs) }

// isWriteSlab says whether a frame is a slab of write entries.
func (l *look) isWriteSlab(frame int) bool { return slices.Contains(l.WriteSlabs, frame) }

// jobs returns how many requests of the disk for a slot are writes, or reads.
func (l *look) jobs(slot int, write bool) int {
	n := 0
	for _, p := range l.Pending {
		if p.Slot == slot && p.Write == write {
			n++
		}
	}
	return n
}

// collect returns the violations for the numbers below limit for which one of the conditions holds.
func collect(limit int, violation func(n int) api.Violation, bad ...func(n int) bool) []api.Violation {
	var found []api.Violation
	for n := range limit {
		if slices.ContainsFunc(bad, func(is func(n int) bool) bool { return is(n) }) {
			found = append(found, violation(n))
		}
	}
	return found
}

// frames returns the violations that are about frames.
func (l *look) frames() []api.Violation {
	kind := func(kind int) func(n int) api.Violation {
		return func(frame int) api.Violation { return api.Violation{Kind: kind, Frame: frame} }
	}
	frames := l.Config.Frames
	return slices.Concat(
		collect(frames, kind(api.BadRole), l.badRole),
		collect(frames, kind(api.BadCount), func(frame int) bool { return l.Refs[frame] != l.present[frame] }),
		l.shares(),
		collect(frames, kind(api.BadList), l.badList),
	)
}

// badRole says whether a frame is not used as its role says.
func (l *look) badRole(frame int) bool {
	roles, role := l.roles(frame), l.Roles[frame]
	switch {
	case l.isWriteSlab(frame) && role != api.SlabFrame, len(roles) > 1:
		return true
	case len(roles) == 1:
		return roles[0] != role
	}
	return role != api.Free && role != api.PoolFrame && role != api.SlabFrame
}

// badList says whether a frame is not in the lists as its role says.
func (l *look) badList(frame int) bool {
	times := 0
	for _, f := range slices.Concat(l.Active, l.Inactive) {
		if f == frame {
			times++
		}
	}
	if l.Roles[frame] == api.MappedFrame {
		return times != 1
	}
	return times > 0 || l.Referenced[frame]
}

// shares returns the violations of Writable entries whose frames are shared.
func (l *look) shares() []api.Violation {
	found := map[api.Violation]bool{}
	for place, e := range entries(l.Snapshot) {
		if e.Writable && l.Refs[e.Number] != 1 {
			found[api.Violation{Kind: api.BadShare, Frame: e.Number, Proc: place.Proc}] = true
		}
	}
	return slices.SortedFunc(maps.Keys(found), func(a, b api.Violation) int {
		if a.Proc != b.Proc {
			return a.Proc - b.Proc
		}
		return a.Frame - b.Frame
	})
}

// slots returns the violations that are about slots and marks.
func (l *look) slots() []api.Violation {
	kind := func(kind int) func(n int) api.Violation {
		return func(slot int) api.Violation { return api.Violation{Kind: kind, Slot: slot} }
	}
	slots := l.Config.Slots
	return slices.Concat(
		collect(slots, kind(api.BadSlot), func(slot int) bool { return l.Slots[slot] != l.swapped[slot] }),
		collect(slots, kind(api.BadWrite), l.badJobs, l.badReads, l.badWaits),
		collect(1, func(int) api.Violation { return api.Violation{Kind: api.BadMark} }, l.badMarks, l.badSlabs),
	)
}

// badJobs says whether the writes to a slot are not those of the disk, or the disk has two requests for it.
func (l *look) badJobs(slot int) bool {
	writes := 0
	for _, w := range l.Writes {
		if w.Slot == slot {
			writes++
		}
	}
	return writes != l.jobs(slot, true) || l.jobs(slot, true)+l.jobs(slot, false) > 1
}

// badReads says whether a slot is read into a frame that nobody has for it.
func (l *look) badReads(slot int) bool {
	return slices.ContainsFunc(l.Pending, func(p api.Pending) bool {
		if p.Write || p.Slot != slot || l.Roles[p.Frame] == api.Orphan {
			return false
		}
		return !slices.ContainsFunc(l.Requests, func(r api.Request) bool {
			return r.State == api.Reading && r.Slot == slot && slices.Contains(r.Frames, p.Frame)
		})
	})
}

// badWaits says whether a request waits for a write or a read of a slot that there is not.
func (l *look) badWaits(slot int) bool {
	return slices.ContainsFunc(l.Requests, func(r api.Request) bool {
		switch {
		case r.Slot != slot:
			return false
		case r.State == api.Claims:
			return !slices.ContainsFunc(l.Writes, func(w api.WriteView) bool {
				return w.Slot == slot && w.Claim == r.Command.Proc
			})
		}
		return r.State == api.Reading && l.jobs(slot, false) == 0
	})
}

// badMarks says whether there are not as many frames, writes and requests of the disk as there may be.
func (l *look) badMarks(int) bool {
	c := l.Config
	return l.backed() < c.Min || len(l.Writes) > c.Cap || len(l.Pending) > c.Queue ||
		l.count(api.PoolFrame) != (c.Queue+perFrame-1)/perFrame
}

// badSlabs says whether there are not as many slabs as there may be for what is in them.
func (l *look) badSlabs(int) bool {
	slabs, objects := 0, 0
	for frame, role := range l.Roles {
		if role == api.SlabFrame && !l.isWriteSlab(frame) {
			slabs++
		}
	}
	for _, n := range l.Objects {
		objects += n
	}
	fits := func(slabs, objects int) bool { return slabs <= objects && slabs*api.PerSlab >= objects }
	return !fits(slabs, objects) || !fits(len(l.WriteSlabs), len(l.Writes))
}
