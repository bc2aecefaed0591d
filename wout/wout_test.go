package wout_test

import (
	"fmt"
	"math"
	"math/rand/v2"
	"slices"
	"strings"
	"testing"

	"headgate/api"
	"headgate/wout"
)

// say writes values with blanks between them, errors by their names.
func say(l ...any) string { return strings.TrimSuffix(fmt.Sprintln(l...), "\n") }

// expect compares what calls gave with what they should give.
func expect(t *testing.T, l [][2]string) {
	t.Helper()
	for i, c := range l {
		if c[0] != c[1] {
			t.Errorf("case %d: %.300q, not %.300q", i, c[0], c[1])
		}
	}
}

func page(state, refs, claim int) api.Wout { return api.Wout{State: state, Refs: refs, Claim: claim} }

// event returns an event of a kind, of the process 3 if it is a claim.
func event(kind int) api.WoutEvent {
	if kind == api.OnClaim {
		return api.WoutEvent{Kind: kind, Proc: 3}
	}
	return api.WoutEvent{Kind: kind}
}

// events returns events of some kinds.
func events(kinds ...int) (l []api.WoutEvent) {
	for _, k := range kinds {
		l = append(l, event(k))
	}
	return l
}

// pages returns valid pages of all states.
func pages() []api.Wout {
	var l []api.Wout
	for _, refs := range []int{0, 1, 2, 3, 4, 100, 510, 511, 512} {
		if refs > 0 {
			l = append(l, page(1, refs, 0), page(3, refs, 1), page(3, refs, 8), page(4, refs, 0))
		}
		l = append(l, page(2, refs, 0), page(5, refs, 0))
	}
	return append(l, page(6, 0, 0))
}

// next is the table of the chapter.
func next(w api.Wout, kind int) (api.Wout, api.Errno) {
	s := w.State
	writing := s == 2 || s == 3
	switch {
	case s == 6, kind == 3 && s != 1, kind == 4 && s != 2, kind == 5 && s != 3, kind == 6 && !writing:
		return api.Wout{}, api.ErrState
	case kind == 1 && (w.Refs < 1 || w.Refs > 511), kind == 2 && (w.Refs < 1 || s == 3 && w.Refs < 2), kind == 4 && w.Refs < 1:
		return api.Wout{}, api.ErrCount
	}
	switch kind {
	case 1:
		return page(s, w.Refs+1, w.Claim), api.OK
	case 2:
		if w.Refs == 1 && (s == 1 || s == 4) {
			return page(6, 0, 0), api.OK
		}
		return page(s, w.Refs-1, w.Claim), api.OK
	case 4:
		return page(3, w.Refs, 3), api.OK
	case 6:
		if s == 3 {
			return page(5, w.Refs-1, 0), api.OK
		}
		if w.Refs == 0 {
			return page(6, 0, 0), api.OK
		}
		return page(4, w.Refs, 0), api.OK
	}
	return page(2, w.Refs, 0), api.OK
}

const none = "{0 0 0}"

// P20.1

func TestBeginCheck(t *testing.T) {
	for refs := -3; refs < 520; refs++ {
		want := none + " count"
		if refs >= 1 && refs <= 512 {
			want = say(page(1, refs, 0), "ok")
		}
		expect(t, [][2]string{{say(wout.Begin(refs)), want}})
	}
	for _, refs := range []int{math.MinInt, math.MaxInt, 1<<32 + 1} {
		expect(t, [][2]string{{say(wout.Begin(refs)), none + " count"}})
	}
	far := []int{math.MinInt, -1 << 32, -1, 0, 1, 2, 6, 7, 8, 9, 511, 512, 513, 1 << 32, 1<<32 + 1, math.MaxInt}
	for _, state := range append(far, 3, 4, 5) {
		for _, refs := range far {
			for _, claim := range far {
				w := page(state, refs, claim)
				err := "ok"
				low := map[int]int{1: 1, 3: 1, 4: 1}[state]
				switch {
				case state < 1 || state > 6:
					err = "state"
				case refs < low || refs > 512 || state == 6 && refs != 0:
					err = "count"
				case state == 3 && (claim < 1 || claim > 8) || state != 3 && claim != 0:
					err = "range"
				}
				if got := wout.Check(w).Error(); got != err {
					t.Fatal(w, got, err)
				}
				if err == "ok" {
					continue
				}
				expect(t, [][2]string{
					{say(wout.Next(w, event(1))), none + " " + err},
					{say(wout.Next(w, event(9))), none + " " + err},
					{say(wout.Run(w, events(1, 2))), none + " 0 " + err},
					{say(wout.Run(w, nil)), none + " 0 " + err},
					{say(wout.Role(w)), "0 " + err},
					{say(wout.Slot(w)), "false false " + err},
					{say(wout.Allowed(w)), "[] " + err},
				})
			}
		}
	}
}

// P20.2, P20.3

func TestNext(t *testing.T) {
	for _, w := range pages() {
		var allowed []int
		for kind := 1; kind <= 6; kind++ {
			want, err := next(w, kind)
			expect(t, [][2]string{{say(wout.Next(w, event(kind))), say(want, err)}})
			if err == api.OK {
				allowed = append(allowed, kind)
			}
			for _, proc := range []int{1, 8, 9, 0, -1, math.MinInt, math.MaxInt} {
				got, err := wout.Next(w, api.WoutEvent{Kind: kind, Proc: proc})
				switch inside := proc >= 1 && proc <= 8; {
				case kind == 4 && !inside:
					expect(t, [][2]string{{say(got, err), none + " range"}})
				case kind == 4 && err == api.OK && got.Claim != proc:
					t.Error(w, proc, got)
				case kind != 4 && proc != 0:
					expect(t, [][2]string{{say(got, err), none + " form"}})
				}
			}
		}
		for _, kind := range []int{0, 7, -1, math.MinInt, math.MaxInt, 1 << 32} {
			expect(t, [][2]string{{say(wout.Next(w, api.WoutEvent{Kind: kind, Proc: kind})), none + " kind"}})
		}
		role, free, busy := 0, false, false
		switch w.State {
		case 1:
			role, free = api.MappedFrame, true
		case 2, 3:
			role, busy = api.WritingFrame, true
		case 5:
			role, free = api.MappedFrame, w.Refs == 0
		case 6:
			free = true
		}
		expect(t, [][2]string{{say(wout.Allowed(w)), say(allowed, "ok")}, {say(wout.Role(w)), say(role, "ok")}, {say(wout.Slot(w)), say(free, busy, "ok")}})
	}
}

// P20.2, P20.5, P20.6

func TestRun(t *testing.T) {
	r := rand.New(rand.NewPCG(20, 20))
	all := pages()
	for range 3000 {
		w := all[r.IntN(len(all))]
		var l []api.WoutEvent
		want, done, err := w, 0, api.OK
		for range r.IntN(9) {
			kind := 1 + r.IntN(6)
			if r.IntN(5) > 0 && err == api.OK {
				if kinds, _ := wout.Allowed(want); len(kinds) > 0 {
					kind = kinds[r.IntN(len(kinds))]
				}
			}
			l = append(l, event(kind))
			if err != api.OK {
				continue
			}
			after, bad := wout.Next(want, event(kind))
			if err = bad; err != api.OK {
				continue
			}
			if wout.Check(after) != api.OK {
				t.Fatal(want, kind, after)
			}
			slot, busy, _ := wout.Slot(after)
			if role, _ := wout.Role(after); slot && busy || busy != (role == api.WritingFrame) {
				t.Fatal(after, slot, busy, role)
			}
			if kind == api.OnComplete && (want.Refs > 0) != (after.State == 4 || after.State == 5) {
				t.Fatal(want, after)
			}
			want, done = after, done+1
		}
		expect(t, [][2]string{{say(wout.Run(w, l)), say(want, done, err)}})
	}
}

// P20.7

func TestTheoremUndo(t *testing.T) {
	for _, w := range pages() {
		if c, err := wout.Next(w, event(api.OnClaim)); err == api.OK {
			expect(t, [][2]string{{say(wout.Next(c, event(api.OnDrop))), say(w, "ok")}})
		}
		if s, err := wout.Next(w, event(api.OnShare)); err == api.OK {
			expect(t, [][2]string{{say(wout.Next(s, event(api.OnLose))), say(w, "ok")}})
			if s.State != w.State {
				t.Error(w, s)
			}
		}
		if s, err := wout.Next(w, event(api.OnLose)); err == api.OK && s.State != w.State && s.Refs > 0 {
			t.Error(w, s)
		}
	}
}

// P20.8

func TestTheoremGone(t *testing.T) {
	for _, w := range pages() {
		if w.State == api.OutDone {
			continue
		}
		steps, limit := 0, w.Refs+2
		for w.State != api.OutGone {
			kind := map[int]int{1: api.OnLose, 2: api.OnLose, 3: api.OnDrop, 4: api.OnLose}[w.State]
			if w.State == 2 && w.Refs == 0 {
				kind = api.OnComplete
			}
			var err api.Errno
			if w, err = wout.Next(w, event(kind)); err != api.OK {
				t.Fatal(w, err)
			}
			steps++
		}
		if steps > limit {
			t.Error(steps, limit)
		}
	}
}

// P20.4

func TestReach(t *testing.T) {
	for _, refs := range []int{1, 2, 3, 4, 5, 6, 7, 100, 507, 511, 512} {
		level := map[api.Wout]bool{page(1, refs, 0): true}
		states := map[int]bool{1: true}
		for n := range 7 {
			var l []int
			for s := range states {
				l = append(l, s)
			}
			slices.Sort(l)
			expect(t, [][2]string{{say(wout.Reach(refs, n)), say(l, "ok")}})
			after := map[api.Wout]bool{}
			for w := range level {
				for kind := 1; kind <= 6; kind++ {
					if x, err := next(w, kind); err == api.OK {
						after[x], states[x.State] = true, true
					}
				}
			}
			level = after
		}
	}
	for _, n := range []int{-1, 7, math.MinInt, math.MaxInt, 1 << 32} {
		expect(t, [][2]string{{say(wout.Reach(1, n)), "[] range"}, {say(wout.Reach(0, n)), "[] count"}, {say(wout.Reach(513, n)), "[] count"}, {say(wout.Reach(n, 3)), map[bool]string{true: "[1 2 3 4 5] ok", false: "[] count"}[n == 7]}})
	}
}

// The examples of the chapter.

func TestExamples(t *testing.T) {
	two, one := page(1, 2, 0), page(1, 1, 0)
	done := page(5, 1, 0)
	expect(t, [][2]string{
		{say(wout.Run(two, events(3, 6))), say(page(4, 2, 0), 2, "ok")},
		{say(wout.Run(two, events(3, 4, 6))), say(done, 3, "ok")},
		{say(wout.Role(done)), say(api.MappedFrame, "ok")},
		{say(wout.Slot(done)), "false false ok"},
		{say(wout.Run(one, events(3, 2, 6))), say(page(6, 0, 0), 3, "ok")},
		{say(wout.Run(one, events(3, 4, 2))), say(page(3, 1, 3), 2, "count")},
		{say(wout.Next(one, event(6))), none + " state"},
		{say(wout.Next(one, api.WoutEvent{Kind: api.OnClaim})), none + " range"},
		{say(wout.Next(one, api.WoutEvent{Kind: api.OnStart, Proc: 1})), none + " form"},
		{say(wout.Next(one, event(7))), none + " kind"},
		{say(wout.Allowed(one)), "[1 2 3] ok"},
		{say(wout.Allowed(page(4, 1, 0))), "[1 2] ok"},
		{say(wout.Allowed(page(6, 0, 0))), "[] ok"},
		{say(wout.Reach(1, 0)), "[1] ok"},
		{say(wout.Reach(1, 1)), "[1 2 6] ok"},
		{say(wout.Reach(1, 3)), "[1 2 3 4 5 6] ok"},
	})
}
