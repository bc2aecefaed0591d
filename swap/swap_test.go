package swap_test

import (
	"fmt"
	"math"
	"math/rand/v2"
	"slices"
	"strings"
	"testing"

	"headgate/api"
	"headgate/swap"
)

// say writes values with blanks between them, errors by their names.
func say(l ...any) string { return strings.TrimSuffix(fmt.Sprintln(l...), "\n") }

// expect compares what calls gave with what they should give.
func expect(t *testing.T, l [][2]string) {
	t.Helper()
	for i, c := range l {
		if c[0] != c[1] {
			t.Fatalf("case %d: %.900q, not %.900q", i, c[0], c[1])
		}
	}
}

// none is no swap, written.
var none = say(api.Swap{})

// clone returns a copy of a swap.
func clone(s api.Swap) api.Swap {
	s.Slots = api.Slots{Refs: slices.Clone(s.Slots.Refs), Busy: slices.Clone(s.Slots.Busy)}
	s.Writes, s.Reads, s.Desc = slices.Clone(s.Writes), slices.Clone(s.Reads), slices.Clone(s.Desc)
	s.Disk.Slots, s.Disk.Jobs, s.Pool.Free = slices.Clone(s.Disk.Slots), slices.Clone(s.Disk.Jobs), slices.Clone(s.Pool.Free)
	return s
}

// scribble writes over a result.
func scribble(s api.Swap) {
	for i := range s.Slots.Refs {
		s.Slots.Refs[i], s.Slots.Busy[i] = 777, !s.Slots.Busy[i]
	}
	for i := range s.Writes {
		s.Writes[i] = api.WriteView{Slot: 777}
	}
	for i := range s.Reads {
		s.Reads[i] = api.ReadView{Slot: 777}
	}
	for i := range s.Desc {
		s.Desc[i] = 777
	}
	for i := range s.Disk.Slots {
		s.Disk.Slots[i] = api.Content{777}
	}
	for i := range s.Disk.Jobs {
		s.Disk.Jobs[i] = api.Job{Slot: 777}
	}
	for i := range s.Pool.Free {
		s.Pool.Free[i] = 777
	}
}

// waits returns the slot for which a process waits, -1 for none.
func waits(s api.Swap, proc int) int {
	for _, w := range s.Writes {
		if w.Claim == proc {
			return w.Slot
		}
	}
	for _, r := range s.Reads {
		if r.Proc == proc {
			return r.Slot
		}
	}
	return -1
}

// hasFrame says whether a job has a frame.
func hasFrame(s api.Swap, frame int) bool {
	return slices.ContainsFunc(s.Disk.Jobs, func(j api.Job) bool { return j.Frame == frame })
}

// freeSlot returns the least free slot, -1 for none.
func freeSlot(s api.Swap) int {
	for i, n := range s.Slots.Refs {
		if n == 0 && !s.Slots.Busy[i] {
			return i
		}
	}
	return -1
}

// hinders says in other words what hinders a write.
func hinders(s api.Swap) (l []int) {
	if len(s.Writes) >= s.Cap {
		l = append(l, 2)
	}
	if len(s.Disk.Jobs) >= s.Disk.Room {
		l = append(l, 3)
	}
	if freeSlot(s) < 0 {
		l = append(l, 4)
	}
	return l
}

// takeDesc moves the least free descriptor to the end of the taken ones.
func takeDesc(s *api.Swap) {
	s.Desc = append(s.Desc, s.Pool.Free[0])
	s.Pool.Free = s.Pool.Free[1:]
}

// The functions do* say what the functions of the package should return, by the fields of a copy.

func doWrite(s api.Swap, frame, refs int, data api.Content) (api.Swap, int, api.Errno) {
	switch {
	case frame < 0 || frame > 255:
		return api.Swap{}, 0, api.ErrRange
	case refs < 1 || refs > 512:
		return api.Swap{}, 0, api.ErrCount
	case hasFrame(s, frame):
		return api.Swap{}, 0, api.ErrBusy
	case len(hinders(s)) > 0:
		return api.Swap{}, 0, api.ErrFull
	}
	s = clone(s)
	slot := freeSlot(s)
	s.Slots.Refs[slot], s.Slots.Busy[slot] = refs, true
	s.Writes = append(s.Writes, api.WriteView{Slot: slot, Frame: frame})
	s.Disk.Jobs = append(s.Disk.Jobs, api.Job{Write: true, Slot: slot, Frame: frame, Data: data})
	takeDesc(&s)
	return s, slot, api.OK
}

func doWait(s api.Swap, slot, frame, proc int) api.Errno {
	switch {
	case slot < 0 || slot >= len(s.Slots.Refs) || frame < 0 || frame > 255 || proc < 1 || proc > 8:
		return api.ErrRange
	case waits(s, proc) >= 0:
		return api.ErrExists
	case s.Slots.Refs[slot] == 0:
		return api.ErrState
	}
	return api.OK
}

func doRead(s api.Swap, slot, frame, proc int) (api.Swap, api.Errno) {
	err := doWait(s, slot, frame, proc)
	switch {
	case err != api.OK:
		return api.Swap{}, err
	case s.Slots.Busy[slot] || hasFrame(s, frame):
		return api.Swap{}, api.ErrBusy
	case len(s.Disk.Jobs) >= s.Disk.Room:
		return api.Swap{}, api.ErrFull
	}
	s = clone(s)
	s.Slots.Busy[slot] = true
	s.Reads = append(s.Reads, api.ReadView{Slot: slot, Frame: frame, Proc: proc})
	s.Disk.Jobs = append(s.Disk.Jobs, api.Job{Slot: slot, Frame: frame})
	takeDesc(&s)
	return s, api.OK
}

func doClaim(s api.Swap, slot, proc int) (api.Swap, api.Errno) {
	if err := doWait(s, slot, 0, proc); err != api.OK {
		return api.Swap{}, err
	}
	at := slices.IndexFunc(s.Writes, func(w api.WriteView) bool { return w.Slot == slot })
	if at < 0 {
		return api.Swap{}, api.ErrMissing
	}
	if s.Writes[at].Claim != 0 {
		return api.Swap{}, api.ErrBusy
	}
	s = clone(s)
	s.Writes[at].Claim = proc
	return s, api.OK
}

func doKill(s api.Swap, proc int) (api.Swap, bool, api.Errno) {
	if proc < 1 || proc > 8 {
		return api.Swap{}, false, api.ErrRange
	}
	was := waits(s, proc) >= 0
	s = clone(s)
	for i := range s.Writes {
		if s.Writes[i].Claim == proc {
			s.Writes[i].Claim = 0
		}
	}
	for i := range s.Reads {
		if s.Reads[i].Proc == proc {
			s.Reads[i].Proc = 0
		}
	}
	return s, was, api.OK
}

func doComplete(s api.Swap, i int) (api.Swap, api.SwapDone, api.Errno) {
	if i < 0 || i >= len(s.Disk.Jobs) {
		return api.Swap{}, api.SwapDone{}, api.ErrMissing
	}
	s = clone(s)
	j := s.Disk.Jobs[i]
	d := api.SwapDone{Write: j.Write, Slot: j.Slot, Frame: j.Frame, Data: j.Data}
	if j.Write {
		at := slices.IndexFunc(s.Writes, func(w api.WriteView) bool { return w.Slot == j.Slot })
		d.Proc = s.Writes[at].Claim
		s.Writes = append(s.Writes[:at], s.Writes[at+1:]...)
		s.Disk.Slots[j.Slot] = j.Data
	} else {
		at := slices.IndexFunc(s.Reads, func(r api.ReadView) bool { return r.Slot == j.Slot })
		d.Proc, d.Data = s.Reads[at].Proc, s.Disk.Slots[j.Slot]
		s.Reads = append(s.Reads[:at], s.Reads[at+1:]...)
	}
	s.Pool.Free = append(s.Pool.Free, s.Desc[i])
	slices.Sort(s.Pool.Free)
	s.Desc = append(s.Desc[:i], s.Desc[i+1:]...)
	s.Disk.Jobs = append(s.Disk.Jobs[:i], s.Disk.Jobs[i+1:]...)
	s.Slots.Busy[j.Slot] = false
	if d.Proc != 0 {
		s.Slots.Refs[j.Slot]--
	}
	return s, d, api.OK
}

func doRef(s api.Swap, slot int) (api.Swap, api.Errno) {
	switch {
	case slot < 0 || slot >= len(s.Slots.Refs):
		return api.Swap{}, api.ErrRange
	case s.Slots.Refs[slot] == 0 && !s.Slots.Busy[slot]:
		return api.Swap{}, api.ErrState
	case s.Slots.Refs[slot] == 512:
		return api.Swap{}, api.ErrCount
	}
	s = clone(s)
	s.Slots.Refs[slot]++
	return s, api.OK
}

func doUnref(s api.Swap, slot int) (api.Swap, bool, api.Errno) {
	if slot < 0 || slot >= len(s.Slots.Refs) {
		return api.Swap{}, false, api.ErrRange
	}
	if s.Slots.Refs[slot] == 0 {
		return api.Swap{}, false, api.ErrCount
	}
	for proc := 1; proc <= 8; proc++ {
		if waits(s, proc) == slot && s.Slots.Refs[slot] == 1 {
			return api.Swap{}, false, api.ErrState
		}
	}
	s = clone(s)
	s.Slots.Refs[slot]--
	return s, s.Slots.Refs[slot] == 0 && !s.Slots.Busy[slot], api.OK
}

var far = []int{math.MinInt, -1, 256, 1 << 32, math.MaxInt}

// number returns mostly a number below n, sometimes one that is far away.
func number(r *rand.Rand, n int) int {
	if r.IntN(25) == 0 {
		return far[r.IntN(len(far))]
	}
	return r.IntN(n)
}

// step does one call, compares it with what it should give, and returns the next swap.
func step(t *testing.T, r *rand.Rand, s api.Swap, n uint64) api.Swap {
	t.Helper()
	slot, frame, proc, refs := number(r, len(s.Slots.Refs)), number(r, 9), number(r, 10), 1+r.IntN(3)
	if r.IntN(30) == 0 {
		refs = []int{0, -1, 512, 513, math.MaxInt}[r.IntN(5)]
	}
	var got, want string
	var next api.Swap
	switch r.IntN(8) {
	case 0, 1:
		a, x, e := swap.WriteOut(s, frame, refs, api.Content{n})
		b, y, f := doWrite(s, frame, refs, api.Content{n})
		next, got, want = a, say(a, x, e), say(b, y, f)
	case 2:
		a, e := swap.ReadIn(s, slot, frame, proc)
		b, f := doRead(s, slot, frame, proc)
		next, got, want = a, say(a, e), say(b, f)
	case 3:
		a, e := swap.Claim(s, slot, proc)
		b, f := doClaim(s, slot, proc)
		next, got, want = a, say(a, e), say(b, f)
	case 4:
		a, x, e := swap.Kill(s, proc)
		b, y, f := doKill(s, proc)
		next, got, want = a, say(a, x, e), say(b, y, f)
	case 5:
		i := number(r, 3)
		a, x, e := swap.Complete(s, i)
		b, y, f := doComplete(s, i)
		next, got, want = a, say(a, x, e), say(b, y, f)
	case 6:
		a, e := swap.Ref(s, slot)
		b, f := doRef(s, slot)
		next, got, want = a, say(a, e), say(b, f)
	case 7:
		a, x, e := swap.Unref(s, slot)
		b, y, f := doUnref(s, slot)
		next, got, want = a, say(a, x, e), say(b, y, f)
	}
	expect(t, [][2]string{{got, want}, {say(swap.Hinders(s)), say(hinders(s), "ok")}})
	if next.Cap == 0 {
		return s
	}
	if swap.Check(next) != api.OK {
		t.Fatal(next, swap.Check(next))
	}
	return next
}

// P22.1 (Hinders), P22.2, P22.3, P22.4, P22.5, P22.6

func TestCalls(t *testing.T) {
	for seed := range uint64(60) {
		r := rand.New(rand.NewPCG(seed, 22))
		s, _ := swap.New(1+r.IntN(7), 1+r.IntN(6), 1+r.IntN(4))
		for n := range uint64(250) {
			before := say(s)
			next := step(t, r, s, n)
			if say(s) != before {
				t.Fatal("an argument was changed")
			}
			if len(s.Writes)+len(s.Reads) > 0 {
				keep := clone(next)
				scribble(next)
				if say(keep) != before && say(s) != before {
					t.Fatal("a result shares memory with an argument")
				}
				next = keep
			}
			s = next
		}
	}
}

// P22.1

func TestNewCheck(t *testing.T) {
	s, err := swap.New(2, 3, 1)
	want := api.Swap{Cap: 1, Slots: api.Slots{Refs: make([]int, 2), Busy: make([]bool, 2)}, Disk: api.Disk{Slots: make([]api.Content, 2), Room: 3}, Pool: api.Pool{Size: 3, Free: []int{0, 1, 2}}}
	expect(t, [][2]string{{say(s, err), say(want, "ok")}, {say(swap.Check(s)), "ok"}})
	for _, c := range [][3]int{{256, 32, 16}, {1, 1, 1}} {
		if s, err := swap.New(c[0], c[1], c[2]); err != api.OK || swap.Check(s) != api.OK || s.Cap != c[2] || len(s.Slots.Refs) != c[0] || s.Disk.Room != c[1] {
			t.Error(c, err)
		}
	}
	for _, n := range []int{0, -1, 257, math.MinInt, math.MaxInt, 1<<32 + 1} {
		expect(t, [][2]string{{say(swap.New(n, 3, 1)), none + " range"}, {say(swap.New(2, n, 1)), none + " range"}, {say(swap.New(2, 3, n)), none + " range"}})
	}
	expect(t, [][2]string{{say(swap.New(2, 33, 1)), none + " range"}, {say(swap.New(2, 3, 17)), none + " range"}})
}

// busy returns a swap with two writes, one claimed by 2, and two reads, one for 3 and one of an orphan.
func busy(t *testing.T) api.Swap {
	s, _ := swap.New(6, 8, 3)
	ok := func(next api.Swap, err api.Errno) {
		t.Helper()
		if err != api.OK {
			t.Fatal(err)
		}
		s = next
	}
	for f := range 2 {
		a, _, err := swap.WriteOut(s, f, 3, api.Content{uint64(f)})
		ok(a, err)
	}
	for range 2 {
		a, _, err := swap.Complete(s, 0)
		ok(a, err)
	}
	for f := range 2 {
		a, _, err := swap.WriteOut(s, f, 1, api.Content{9})
		ok(a, err)
	}
	ok(swap.Claim(s, 2, 2))
	ok(swap.ReadIn(s, 0, 5, 3))
	ok(swap.ReadIn(s, 1, 6, 4))
	a, _, err := swap.Kill(s, 4)
	ok(a, err)
	return s
}

func TestCheckForm(t *testing.T) {
	for i, c := range []struct {
		change func(s *api.Swap)
		err    api.Errno
	}{
		{func(s *api.Swap) {}, api.OK},
		{func(s *api.Swap) { s.Cap = 0 }, api.ErrRange},
		{func(s *api.Swap) { s.Cap = 17; s.Slots = api.Slots{} }, api.ErrRange},
		{func(s *api.Swap) { s.Cap = 16 }, api.OK},
		{func(s *api.Swap) { s.Cap = 2 }, api.OK},
		{func(s *api.Swap) { s.Cap = 1 }, api.ErrForm},
		{func(s *api.Swap) { s.Slots.Refs[0] = 513; s.Writes[0].Slot = 300 }, api.ErrCount},
		{func(s *api.Swap) { s.Slots.Busy = s.Slots.Busy[:5]; s.Cap = 1 }, api.ErrForm},
		{func(s *api.Swap) { s.Writes[1].Frame = s.Writes[0].Frame; s.Disk.Jobs[0].Slot = -1 }, api.ErrExists},
		{func(s *api.Swap) { s.Writes[0].Claim = 9 }, api.ErrRange},
		{func(s *api.Swap) { s.Disk.Jobs[3].Data[0] = 1; s.Pool.Size = 0 }, api.ErrForm},
		{func(s *api.Swap) { s.Disk.Jobs[1].Slot = s.Disk.Jobs[0].Slot; s.Pool.Size = 0 }, api.ErrBusy},
		{func(s *api.Swap) { s.Disk.Room = 3; s.Pool.Size = 0 }, api.ErrFull},
		{func(s *api.Swap) { s.Pool.Free[1] = s.Pool.Free[0]; s.Cap = 1 }, api.ErrOrder},
		{func(s *api.Swap) { s.Pool.Size = 0 }, api.ErrRange},
		{func(s *api.Swap) { s.Disk.Room = 9 }, api.ErrForm},
		{func(s *api.Swap) { s.Pool.Size = 9 }, api.ErrForm},
		{func(s *api.Swap) { s.Disk.Slots = append(s.Disk.Slots, api.Content{}) }, api.ErrForm},
		{func(s *api.Swap) { s.Slots.Refs = append(s.Slots.Refs, 0); s.Slots.Busy = append(s.Slots.Busy, false) }, api.ErrForm},
		{func(s *api.Swap) { s.Slots = api.Slots{Refs: make([]int, 1), Busy: make([]bool, 1)} }, api.ErrForm},
		{func(s *api.Swap) { s.Writes = s.Writes[:1] }, api.ErrForm},
		{func(s *api.Swap) { s.Writes = append(s.Writes, api.WriteView{Slot: 5, Frame: 9}) }, api.ErrForm},
		{func(s *api.Swap) { s.Writes[0], s.Writes[1] = s.Writes[1], s.Writes[0] }, api.ErrForm},
		{func(s *api.Swap) { s.Writes[0].Frame = 99 }, api.ErrForm},
		{func(s *api.Swap) { s.Writes[1].Slot = 5 }, api.ErrForm},
		{func(s *api.Swap) { s.Reads = nil }, api.ErrForm},
		{func(s *api.Swap) { s.Reads = append(s.Reads, s.Reads[0]) }, api.ErrForm},
		{func(s *api.Swap) { s.Reads[0], s.Reads[1] = s.Reads[1], s.Reads[0] }, api.ErrForm},
		{func(s *api.Swap) { s.Reads[0].Slot = 5 }, api.ErrForm},
		{func(s *api.Swap) { s.Reads[0].Frame = 99 }, api.ErrForm},
		{func(s *api.Swap) { s.Reads[1].Proc = 9 }, api.ErrForm},
		{func(s *api.Swap) { s.Reads[1].Proc = -1 }, api.ErrForm},
		{func(s *api.Swap) { s.Reads[1].Proc = 8 }, api.OK},
		{func(s *api.Swap) { s.Reads[1].Proc = 3 }, api.ErrForm},
		{func(s *api.Swap) { s.Reads[1].Proc = 2 }, api.ErrForm},
		{func(s *api.Swap) { s.Slots.Busy[0] = false }, api.ErrForm},
		{func(s *api.Swap) { s.Slots.Busy[5] = true }, api.ErrForm},
		{func(s *api.Swap) { s.Slots.Busy[0], s.Slots.Busy[5] = false, true }, api.ErrForm},
		{func(s *api.Swap) { s.Desc = s.Desc[1:] }, api.ErrForm},
		{func(s *api.Swap) { s.Desc = append(s.Desc, 5) }, api.ErrForm},
		{func(s *api.Swap) { s.Desc[0] = s.Desc[1] }, api.ErrForm},
		{func(s *api.Swap) { s.Desc[0] = 7 }, api.ErrForm},
		{func(s *api.Swap) { s.Desc[0], s.Desc[1] = s.Desc[1], s.Desc[0] }, api.OK},
		{func(s *api.Swap) { s.Pool.Free = s.Pool.Free[1:] }, api.ErrForm},
		{func(s *api.Swap) { s.Slots.Refs[0] = 0 }, api.ErrForm},
		{func(s *api.Swap) { s.Slots.Refs[2] = 0 }, api.ErrForm},
		{func(s *api.Swap) { s.Slots.Refs[1], s.Slots.Refs[3] = 0, 0 }, api.OK},
	} {
		s := busy(t)
		c.change(&s)
		if err := swap.Check(s); err != c.err {
			t.Error(i, err, c.err)
		}
		if c.err == api.OK {
			continue
		}
		for _, n := range []int{0, -1} {
			e := c.err.Error()
			expect(t, [][2]string{
				{say(swap.Hinders(s)), "[] " + e},
				{say(swap.WriteOut(s, n, n, api.Content{})), none + " 0 " + e},
				{say(swap.ReadIn(s, n, n, n)), none + " " + e},
				{say(swap.Claim(s, n, n)), none + " " + e},
				{say(swap.Kill(s, n)), none + " false " + e},
				{say(swap.Complete(s, n)), say(none, api.SwapDone{}, e)},
				{say(swap.Ref(s, n)), none + " " + e},
				{say(swap.Unref(s, n)), none + " false " + e},
			})
		}
	}
}

// The order of errors, where several apply.

func TestErrorOrder(t *testing.T) {
	s := busy(t)
	expect(t, [][2]string{
		{say(swap.WriteOut(s, 256, 0, api.Content{})), none + " 0 range"},
		{say(swap.WriteOut(s, 0, 0, api.Content{})), none + " 0 count"},
		{say(swap.WriteOut(s, 5, 513, api.Content{})), none + " 0 count"},
		{say(swap.WriteOut(s, 5, 1, api.Content{})), none + " 0 busy"},
		{say(swap.ReadIn(s, 6, 0, 3)), none + " range"},
		{say(swap.ReadIn(s, 5, 256, 3)), none + " range"},
		{say(swap.ReadIn(s, 5, 0, 9)), none + " range"},
		{say(swap.ReadIn(s, 5, 0, 3)), none + " exists"},
		{say(swap.ReadIn(s, 5, 0, 5)), none + " state"},
		{say(swap.ReadIn(s, 0, 77, 5)), none + " busy"},
		{say(swap.Claim(s, 5, 2)), none + " exists"},
		{say(swap.Claim(s, 5, 5)), none + " state"},
		{say(swap.Claim(s, 0, 5)), none + " missing"},
		{say(swap.Claim(s, 2, 5)), none + " busy"},
		{say(swap.Unref(s, 2)), none + " false state"},
		{say(swap.Unref(s, 5)), none + " false count"},
		{say(swap.Ref(s, 5)), none + " state"},
		{say(swap.Unref(s, 6)), none + " false range"},
		{say(swap.Ref(s, -1)), none + " range"},
		{say(swap.Complete(s, 4)), say(none, api.SwapDone{}, "missing")},
	})
}

// P22.7, P22.8, P22.9, P22.10

func TestTheorems(t *testing.T) {
	for seed := range uint64(40) {
		r := rand.New(rand.NewPCG(seed, 23))
		s, _ := swap.New(3+r.IntN(5), 3+r.IntN(5), 1+r.IntN(3))
		last := map[int]uint64{}
		for n := range uint64(200) {
			next := step(t, r, s, n)
			for _, w := range next.Disk.Jobs {
				if w.Write && w.Data[0] == n && n > 0 {
					last[w.Slot] = n
				}
			}
			s = next
			hindered, _ := swap.Hinders(s)
			if freeSlot(s) >= 0 && len(s.Writes) < s.Cap && len(s.Reads) < s.Disk.Room-s.Cap && len(hindered) > 0 {
				t.Fatal(s, hindered)
			}
		}
		var ends []string
		for range 3 {
			rest := s
			var out []string
			for len(rest.Disk.Jobs) > 0 {
				next, d, err := swap.Complete(rest, r.IntN(len(rest.Disk.Jobs)))
				if err != api.OK || d.Data[0] != last[d.Slot] {
					t.Fatal(rest, d, err, last)
				}
				rest, out = next, append(out, say(d))
			}
			slices.Sort(out)
			ends = append(ends, say(rest, out))
			for i, n := range rest.Slots.Refs {
				if rest.Slots.Busy[i] || len(rest.Pool.Free) != rest.Pool.Size || n > 0 && rest.Disk.Slots[i][0] != last[i] {
					t.Fatal(rest)
				}
			}
		}
		if ends[0] != ends[1] || ends[0] != ends[2] {
			t.Fatal(ends)
		}
	}
}

// The examples of the chapter.

func TestExamples(t *testing.T) {
	x := api.Content{1, 2, 3}
	s, _ := swap.New(2, 3, 1)
	expect(t, [][2]string{{say(swap.Hinders(s)), "[] ok"}})
	s, slot, err := swap.WriteOut(s, 5, 2, x)
	expect(t, [][2]string{
		{say(slot, err), "0 ok"},
		{say(swap.Hinders(s)), "[2] ok"},
		{say(swap.WriteOut(s, 6, 1, x)), none + " 0 full"},
		{say(swap.WriteOut(s, 5, 1, x)), none + " 0 busy"},
		{say(swap.ReadIn(s, 0, 7, 1)), none + " busy"},
	})
	s, err = swap.Claim(s, 0, 3)
	expect(t, [][2]string{
		{say(err), "ok"},
		{say(swap.Claim(s, 0, 4)), none + " busy"},
		{say(swap.Claim(s, 1, 4)), none + " state"},
		{say(swap.Complete(s, 1)), say(none, api.SwapDone{}, "missing")},
	})
	s, d, err := swap.Complete(s, 0)
	expect(t, [][2]string{{say(d, err), say(api.SwapDone{Write: true, Slot: 0, Frame: 5, Proc: 3, Data: x}, "ok")}, {say(s.Slots.Refs[0]), "1"}})
	s, err = swap.ReadIn(s, 0, 7, 3)
	expect(t, [][2]string{{say(err), "ok"}})
	s, killed, err := swap.Kill(s, 3)
	expect(t, [][2]string{{say(killed, err), "true ok"}})
	s, free, err := swap.Unref(s, 0)
	expect(t, [][2]string{{say(free, err), "false ok"}})
	s, d, err = swap.Complete(s, 0)
	expect(t, [][2]string{{say(d, err), say(api.SwapDone{Slot: 0, Frame: 7, Data: x}, "ok")}})
	_, slot, err = swap.WriteOut(s, 8, 1, x)
	expect(t, [][2]string{{say(slot, err), "0 ok"}})
}
