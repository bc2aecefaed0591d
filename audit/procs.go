package audit

import (
	"slices"

	"headgate/api"
	"headgate/region"
)

// procs returns the violations that are about processes.
func (l *look) procs() []api.Violation {
	kind := func(kind int) func(n int) api.Violation {
		return func(proc int) api.Violation { return api.Violation{Kind: kind, Proc: proc} }
	}
	return slices.Concat(
		collect(api.MaxProcs+1, kind(api.BadLeaf), l.badEntries, l.badTable),
		collect(api.MaxProcs+1, kind(api.BadQueue), l.badSleep, l.badState, l.badRequest),
	)
}

// requests returns how many requests a process has, and whether it has the first one of all.
func (l *look) requests(proc int) (n int, first bool) {
	for i, r := range l.Requests {
		if r.Command.Proc == proc {
			n++
			first = first || i == 0
		}
	}
	return n, first
}

// spawning says whether a process waits for its spawning.
func (l *look) spawning(proc int) bool {
	return l.Procs[proc-1].State == api.Blocked && slices.ContainsFunc(l.Requests, func(r api.Request) bool {
		return r.Command.Proc == proc && r.Command.Kind == api.DoSpawn
	})
}

// badEntries says whether a process has an entry without a leaf or outside its regions, or an empty leaf.
func (l *look) badEntries(proc int) bool {
	if proc == 0 {
		return false
	}
	p := l.Procs[proc-1]
	var used [api.Leaves]bool
	for page, w := range p.Entries {
		mapped, _ := region.Has(p.Regions, page)
		leaf := page / api.PerLeaf
		if w != 0 && (p.Leaves[leaf] == none || !mapped) {
			return true
		}
		used[leaf] = used[leaf] || w != 0
	}
	_, first := l.requests(proc)
	for leaf, frame := range p.Leaves {
		if frame != none && !used[leaf] && !(p.State == api.Blocked && first) {
			return true
		}
	}
	return false
}

// badTable says whether a process has not the table, or the regions, that its state asks for.
func (l *look) badTable(proc int) bool {
	if proc == 0 {
		return false
	}
	p := l.Procs[proc-1]
	leaves := p.Leaves != [api.Leaves]int{none, none, none, none, none, none, none, none}
	rooted := p.Root != none
	if p.State == api.Dead || l.spawning(proc) {
		return rooted || leaves || len(p.Regions) > 0 || p.Entries != [api.Pages]uint64{}
	}
	return leaves && !rooted || p.State == api.Live && !rooted
}

// badSleep says whether kswapd, which stands for the process 0, is not awake or asleep as it should be.
func (l *look) badSleep(proc int) bool {
	free := l.count(api.Free)
	return proc == 0 && (!l.Awake && free < l.Config.LowMark || l.Awake && free >= l.Config.High)
}

// badState says whether a process is Blocked, and has not exactly one request, or is not, and has one.
func (l *look) badState(proc int) bool {
	if proc == 0 {
		return false
	}
	n, _ := l.requests(proc)
	if l.Procs[proc-1].State == api.Blocked {
		return n != 1
	}
	return n > 0
}

// badRequest says whether a request of a process is out of order, or has begun before its turn.
func (l *look) badRequest(proc int) bool {
	for i, r := range l.Requests {
		if r.Command.Proc != proc {
			continue
		}
		if r.Ticket >= l.Next || i > 0 && r.Ticket <= l.Requests[i-1].Ticket {
			return true
		}
		if i > 0 && (r.State != api.Wants || len(r.Frames) > 0) {
			return true
		}
	}
	return false
}
