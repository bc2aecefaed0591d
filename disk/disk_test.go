package disk_test

import (
	"fmt"
	"math"
	"math/rand/v2"
	"slices"
	"strings"
	"testing"

	"headgate/api"
	"headgate/disk"
)

// say writes values with blanks between them, errors by their names.
func say(l ...any) string { return strings.TrimSuffix(fmt.Sprintln(l...), "\n") }

// expect compares what calls gave with what they should give.
func expect(t *testing.T, l [][2]string) {
	t.Helper()
	for i, c := range l {
		if c[0] != c[1] {
			t.Fatalf("case %d: %q, not %q", i, c[0], c[1])
		}
	}
}

// with returns a content with n in its first word.
func with(n uint64) api.Content { return api.Content{n, 7: n * 3} }

func write(slot, frame int, data api.Content) api.Job {
	return api.Job{Write: true, Slot: slot, Frame: frame, Data: data}
}

func read(slot, frame int) api.Job { return api.Job{Slot: slot, Frame: frame} }

// of makes a device with zero contents.
func of(slots, room int, jobs ...api.Job) api.Disk {
	return api.Disk{Slots: make([]api.Content, slots), Jobs: jobs, Room: room}
}

// jobs writes the jobs of a device shortly, and an error.
func jobs(d api.Disk, err api.Errno) string {
	s := ""
	for _, j := range d.Jobs {
		s += job(j) + " "
	}
	return s + err.Error()
}

func job(j api.Job) string {
	return fmt.Sprintf("%s%d:%d=%d", map[bool]string{true: "w", false: "r"}[j.Write], j.Slot, j.Frame, j.Data[0])
}

const none = "{[] [] 0}"

var noJob = say(api.Job{})

var far = []int{math.MinInt, -1 << 32, -1, 256, 257, 1 << 32, 1<<32 + 1, math.MaxInt}

// P17.1

func TestNewCheck(t *testing.T) {
	for _, slots := range []int{1, 2, 255, 256} {
		for _, room := range []int{1, 2, 31, 32} {
			expect(t, [][2]string{{say(disk.New(slots, room)), say(of(slots, room), "ok")}})
		}
	}
	for _, n := range append([]int{0}, far...) {
		expect(t, [][2]string{{say(disk.New(5, n)), none + " range"}})
		if n != 256 {
			expect(t, [][2]string{{say(disk.New(n, 5)), none + " range"}})
		}
	}
	expect(t, [][2]string{{say(disk.New(5, 33)), none + " range"}})
	for _, c := range []struct {
		d    api.Disk
		want string
	}{
		{api.Disk{Room: 1}, "range 0"},
		{of(0, 0), "range 0"},
		{of(257, 1), "range 0"},
		{of(5, 0, read(9, 9)), "range 0"},
		{of(5, 33), "range 0"},
		{of(5, math.MinInt), "range 0"},
		{of(5, 1, read(9, 9), read(9, 9)), "full 0"},
		{of(5, 2, read(0, 0), write(0, 1, with(1))), "busy 1"},
		{of(5, 2, read(0, 0), write(1, 0, with(1))), "busy 1"},
		{of(5, 3, read(0, 1), read(1, 0), write(2, 1, with(1))), "busy 2"},
		{of(5, 2, read(0, 1), read(1, 0)), "ok 0"},
		{of(5, 2, read(0, 0), read(5, 0)), "range 1"},
		{of(5, 2, read(-1, 0)), "range 0"},
		{of(5, 2, read(0, -1)), "range 0"},
		{of(5, 2, read(0, 256)), "range 0"},
		{of(5, 2, read(4, 255), write(0, 0, with(0))), "ok 0"},
		{of(5, 2, api.Job{Slot: 1, Frame: 1, Data: with(1)}), "form 0"},
		{of(5, 2, read(1, 2), api.Job{Slot: 1, Frame: 1, Data: with(1)}), "busy 1"},
		{of(5, 2, api.Job{Slot: 5, Frame: 1, Data: with(1)}), "range 0"},
		{of(5, 2, api.Job{Slot: 1, Frame: 1, Data: api.Content{7: 1}}, read(9, 9)), "form 0"},
	} {
		expect(t, [][2]string{{say(disk.Check(c.d)), c.want}})
		if err := strings.Fields(c.want)[0]; err != "ok" {
			for _, n := range []int{0, 1, 500} {
				expect(t, [][2]string{
					{say(disk.Write(c.d, n, n, with(1))), none + " " + err},
					{say(disk.Read(c.d, n, n)), none + " " + err},
					{say(disk.Complete(c.d, n)), none + " " + noJob + " " + err},
					{say(disk.All(c.d)), none + " [] " + err},
					{say(disk.Find(c.d, n)), "0 " + err},
					{say(disk.Left(c.d)), "0 " + err},
					{say(disk.Later(c.d, n)), say(api.Content{}, err)},
				})
			}
		}
	}
}

// some returns a device with jobs, always the same one for a number.
func some(seed uint64) api.Disk {
	r := rand.New(rand.NewPCG(seed, 17))
	room := 1 + r.IntN(8)
	d := of(1+r.IntN(9), room)
	for i := range d.Slots {
		d.Slots[i] = with(uint64(r.IntN(5)))
	}
	slots, frames := r.Perm(len(d.Slots)), r.Perm(256)
	for i := range r.IntN(min(room, len(slots)) + 1) {
		j := read(slots[i], frames[i])
		if r.IntN(2) == 0 {
			j = write(slots[i], frames[i], with(100+uint64(i)))
		}
		d.Jobs = append(d.Jobs, j)
	}
	return d
}

// scribble writes over a result, and checks that the argument does not notice.
func scribble(t *testing.T, arg api.Disk, before string, result api.Disk) {
	t.Helper()
	for i := range result.Slots {
		result.Slots[i] = with(777)
	}
	for i := range result.Jobs {
		result.Jobs[i] = read(777, 777)
	}
	_ = append(result.Jobs, read(778, 778))
	if say(arg) != before {
		t.Fatal("an argument was changed:", before, arg)
	}
}

// P17.2, P17.8

func TestWriteRead(t *testing.T) {
	for seed := range uint64(200) {
		d := some(seed)
		before := say(d)
		busySlot, busyFrame := map[int]bool{}, map[int]bool{}
		for _, j := range d.Jobs {
			busySlot[j.Slot], busyFrame[j.Frame] = true, true
		}
		for _, slot := range append([]int{0, 1, 2, 3, 4, 5, 6, 7, 8, 9}, far...) {
			for _, frame := range append([]int{0, 1, 100, 255, firstFrame(d)}, far...) {
				err := api.OK
				switch {
				case slot < 0 || slot >= len(d.Slots) || frame < 0 || frame > 255:
					err = api.ErrRange
				case busySlot[slot] || busyFrame[frame]:
					err = api.ErrBusy
				case len(d.Jobs) == d.Room:
					err = api.ErrFull
				}
				w, wErr := disk.Write(d, slot, frame, with(9))
				r, rErr := disk.Read(d, slot, frame)
				wantW, wantR := api.Disk{}, api.Disk{}
				if err == api.OK {
					wantW = api.Disk{Slots: d.Slots, Jobs: append(slices.Clone(d.Jobs), write(slot, frame, with(9))), Room: d.Room}
					wantR = api.Disk{Slots: d.Slots, Jobs: append(slices.Clone(d.Jobs), read(slot, frame)), Room: d.Room}
				}
				expect(t, [][2]string{{say(w, wErr), say(wantW, err)}, {say(r, rErr), say(wantR, err)}})
				scribble(t, d, before, w)
				scribble(t, d, before, r)
			}
		}
	}
}

// firstFrame returns the frame of the first job, or 7.
func firstFrame(d api.Disk) int {
	if len(d.Jobs) > 0 {
		return d.Jobs[0].Frame
	}
	return 7
}

// P17.3

func TestComplete(t *testing.T) {
	for seed := range uint64(200) {
		d := some(seed)
		before := say(d)
		for i, j := range d.Jobs {
			want := api.Disk{Slots: slices.Clone(d.Slots), Jobs: slices.Concat(d.Jobs[:i], d.Jobs[i+1:]), Room: d.Room}
			if j.Write {
				want.Slots[j.Slot] = j.Data
			} else {
				j.Data = d.Slots[j.Slot]
			}
			got, done, err := disk.Complete(d, i)
			expect(t, [][2]string{{say(got, done, err), say(want, j, "ok")}})
			scribble(t, d, before, got)
		}
		for _, i := range append([]int{len(d.Jobs)}, far...) {
			expect(t, [][2]string{{say(disk.Complete(d, i)), none + " " + noJob + " missing"}})
		}
		want, all := d, []api.Job(nil)
		for range d.Jobs {
			next, j, _ := disk.Complete(want, 0)
			want, all = next, append(all, j)
		}
		got, l, err := disk.All(d)
		expect(t, [][2]string{{say(got, l, err), say(want, all, "ok")}})
		for i := range l {
			l[i] = read(777, 777)
		}
		scribble(t, d, before, got)
	}
}

// P17.4, P17.8

func TestLooks(t *testing.T) {
	for seed := range uint64(200) {
		d := some(seed)
		expect(t, [][2]string{{say(disk.Left(d)), say(d.Room-len(d.Jobs), "ok")}})
		for slot := range d.Slots {
			find, later := "0 missing", d.Slots[slot]
			for i, j := range d.Jobs {
				if j.Slot == slot {
					find = say(i, "ok")
					if j.Write {
						later = j.Data
					}
				}
			}
			expect(t, [][2]string{{say(disk.Find(d, slot)), find}, {say(disk.Later(d, slot)), say(later, "ok")}})
		}
		for _, slot := range append([]int{len(d.Slots)}, far...) {
			expect(t, [][2]string{{say(disk.Find(d, slot)), "0 range"}, {say(disk.Later(d, slot)), say(api.Content{}, "range")}})
		}
	}
}

// P17.5, P17.6

func TestTheoremOrders(t *testing.T) {
	r := rand.New(rand.NewPCG(17, 17))
	for seed := range uint64(300) {
		d := some(seed)
		end, all, _ := disk.All(d)
		for range 5 {
			rest := d
			var out []string
			for len(rest.Jobs) > 0 {
				next, j, err := disk.Complete(rest, r.IntN(len(rest.Jobs)))
				if err != api.OK {
					t.Fatal(rest, err)
				}
				out = append(out, job(j))
				for slot := range d.Slots {
					was, _ := disk.Later(d, slot)
					is, _ := disk.Later(next, slot)
					if was != is || was != end.Slots[slot] {
						t.Fatal(d, next, slot)
					}
				}
				rest = next
			}
			var want []string
			for _, j := range all {
				want = append(want, job(j))
			}
			slices.Sort(out)
			slices.Sort(want)
			if say(rest) != say(end) || !slices.Equal(out, want) {
				t.Fatal(d, rest, out, want)
			}
		}
		for slot := range d.Slots {
			w, err := disk.Write(d, slot, 200, with(55))
			if err != api.OK {
				continue
			}
			for s := range d.Slots {
				was, _ := disk.Later(d, s)
				if is, _ := disk.Later(w, s); s == slot && is != with(55) || s != slot && is != was {
					t.Fatal(d, slot, s)
				}
			}
		}
	}
}

// P17.7

func TestTheoremReads(t *testing.T) {
	r := rand.New(rand.NewPCG(18, 17))
	d, _ := disk.New(6, 4)
	last := make([]api.Content, 6)
	seen := 0
	for n := range 4000 {
		slot, frame := r.IntN(6), r.IntN(8)
		var next api.Disk
		var err api.Errno
		switch r.IntN(4) {
		case 0:
			next, err = disk.Write(d, slot, frame, with(uint64(n)))
		case 1:
			next, err = disk.Read(d, slot, frame)
		default:
			var j api.Job
			next, j, err = disk.Complete(d, r.IntN(4))
			if err != api.OK {
				break
			}
			if j.Write {
				last[j.Slot] = j.Data
			} else if seen++; j.Data != last[j.Slot] {
				t.Fatal(d, j)
			}
		}
		if err == api.OK {
			d = next
		}
	}
	if seen < 100 {
		t.Error(seen)
	}
}

// The examples of the chapter.

func TestExamples(t *testing.T) {
	a, b := api.Content{1}, api.Content{2}
	d, _ := disk.New(2, 2)
	d, _ = disk.Write(d, 1, 5, a)
	one := d
	d, err := disk.Read(d, 0, 6)
	expect(t, [][2]string{
		{jobs(d, err), "w1:5=1 r0:6=0 ok"},
		{say(disk.Left(d)), "0 ok"},
		{say(disk.Later(d, 1)), say(a, "ok")},
		{say(disk.Find(d, 0)), "1 ok"},
		{jobs(disk.Write(one, 1, 8, b)), "busy"},
		{jobs(disk.Read(one, 0, 5)), "busy"},
		{jobs(disk.Read(of(3, 2, d.Jobs...), 2, 9)), "full"},
		{say(disk.Complete(d, 2)), none + " " + noJob + " missing"},
		{jobs(disk.Write(d, 2, 1, a)), "range"},
		{jobs(disk.Read(d, 0, 256)), "range"},
	})
	d, j, _ := disk.Complete(d, 1)
	expect(t, [][2]string{{job(j), "r0:6=0"}})
	d, j, _ = disk.Complete(d, 0)
	expect(t, [][2]string{{job(j), "w1:5=1"}, {say(d.Slots[1]), say(a)}})
	d, _ = disk.Read(d, 1, 7)
	_, j, _ = disk.Complete(d, 0)
	expect(t, [][2]string{{job(j), "r1:7=1"}})
}
