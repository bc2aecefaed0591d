package kernel

import (
	"iter"

	"headgate/api"
	"headgate/balance"
	"headgate/lru"
	"headgate/oom"
	"headgate/reclaim"
)

// tally returns what a step of reclaim looks at.
func (k *Kernel) tally() api.Tally {
	c, l := k.config, k.lists
	target, _ := balance.Target(len(l.Active) + len(l.Inactive))
	t := api.Tally{
		Free: k.free(), Min: c.Min, LowMark: c.LowMark, High: c.High, Awake: k.awake, Objects: len(k.objects),
		Active: len(l.Active), Inactive: len(l.Inactive), Target: target,
		Writes: len(k.swap.Writes), Cap: c.Cap, Room: c.Queue - len(k.swap.Disk.Jobs),
	}
	if last := len(l.Inactive) - 1; last >= 0 {
		t.Referenced = l.Referenced[l.Inactive[last]]
	}
	for _, r := range k.swap.Reads {
		if r.Proc == 0 {
			t.Orphans++
		}
	}
	for slot, refs := range k.swap.Slots.Refs {
		if refs == 0 && !k.swap.Slots.Busy[slot] {
			t.Slots++
		}
	}
	return t
}

// direct does a direct reclaim step.
func (k *Kernel) direct() []api.Outcome {
	kind, _ := reclaim.Direct(k.tally())
	if kind != api.StepKill {
		k.reclaim(kind)
		return nil
	}
	victim, err := oom.Victim(k.views(), k.spawnings())
	if err != api.OK {
		return nil
	}
	return []api.Outcome{k.killed(victim)}
}

// background does a step of kswapd.
func (k *Kernel) background() {
	kind, _ := reclaim.Background(k.tally())
	k.reclaim(kind)
}

// reclaim does a step of a kind that kills nobody.
func (k *Kernel) reclaim(kind int) {
	lists, err := k.lists, api.OK
	switch kind {
	case api.StepShrink:
		k.discard(&k.memory)
		return
	case api.StepDemote:
		lists, _, err = lru.Demote(k.lists)
	case api.StepSpare:
		lists, _, err = lru.Promote(k.lists)
	case api.StepWrite:
		if frame, err := lru.Last(k.lists); err == api.OK {
			k.writeOut(frame)
		}
		return
	}
	if err == api.OK {
		k.lists = lists
	}
}

// spawnings returns the processes that wait for their spawning.
func (k *Kernel) spawnings() []int {
	var l []int
	for proc := 1; proc <= api.MaxProcs; proc++ {
		if k.spawning(proc) {
			l = append(l, proc)
		}
	}
	return l
}

// rounds does DoRounds.
func (k *Kernel) rounds(c api.Command) ([]api.Outcome, api.Errno) {
	var all []api.Outcome
	for range c.A {
		for l := range k.round() {
			all = append(all, l...)
			k.look()
		}
	}
	return all, api.OK
}

// round does a fair round, and yields the outcomes of each completion and each pick.
func (k *Kernel) round() iter.Seq[[]api.Outcome] {
	return func(yield func([]api.Outcome) bool) {
		for range len(k.swap.Disk.Jobs) {
			if l, _ := k.complete(api.Command{Kind: api.DoComplete}); !yield(l) {
				return
			}
		}
		for _, proc := range append(k.blocked(), 0) {
			if l, _ := k.pick(api.Command{Kind: api.DoPick, Proc: proc}); !yield(l) {
				return
			}
		}
	}
}

// blocked returns the processes that are Blocked, ascending.
func (k *Kernel) blocked() []int {
	var l []int
	for proc := 1; proc <= api.MaxProcs; proc++ {
		if k.state(proc) == api.Blocked {
			l = append(l, proc)
		}
	}
	return l
}
