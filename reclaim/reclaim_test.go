package reclaim_test

import (
	"fmt"
	"math"
	"math/rand/v2"
	"strings"
	"testing"

	"headgate/api"
	"headgate/reclaim"
)

// say writes values with blanks between them, errors by their names.
func say(l ...any) string { return strings.TrimSuffix(fmt.Sprintln(l...), "\n") }

// expect compares what calls gave with what they should give.
func expect(t *testing.T, l [][2]string) {
	t.Helper()
	for i, c := range l {
		if c[0] != c[1] {
			t.Fatalf("case %d: %.700q, not %.700q", i, c[0], c[1])
		}
	}
}

// base is the tally of the chapter's examples.
var base = api.Tally{Free: 5, Min: 5, LowMark: 8, High: 12, Active: 3, Inactive: 2, Target: 2, Cap: 2, Room: 4, Slots: 9}

// with returns the tally of the examples with a change.
func with(f func(t *api.Tally)) api.Tally {
	t := base
	f(&t)
	return t
}

// some returns a valid tally, always the same one for a number.
func some(seed uint64) api.Tally {
	r := rand.New(rand.NewPCG(seed, 33))
	few := func(n int) int { return r.IntN(n) * r.IntN(2) }
	t := api.Tally{Free: r.IntN(20), Min: r.IntN(8), Objects: few(12), Active: few(5), Inactive: few(5), Target: r.IntN(5), Awake: r.IntN(2) == 0, Cap: 1 + r.IntN(4), Orphans: few(3), Room: few(5), Slots: few(6)}
	t.LowMark = t.Min + 1 + r.IntN(5)
	t.High = t.LowMark + 1 + r.IntN(5)
	t.Writes = r.IntN(t.Cap+1) * r.IntN(2)
	t.Referenced = t.Inactive > 0 && r.IntN(2) == 0
	return t
}

// direct and background say in other words what steps do.
func writable(t api.Tally) bool {
	return t.Active+t.Inactive > 0 && t.Writes < t.Cap && t.Room > 0 && t.Slots > 0
}

func direct(t api.Tally) int {
	switch {
	case t.Objects > 0:
		return 1
	case writable(t):
		return 4
	case t.Writes+t.Orphans > 0:
		return 5
	}
	return 6
}

func background(t api.Tally) int {
	switch {
	case !t.Awake:
		return 0
	case t.Objects > 0:
		return 1
	case t.Inactive < t.Target && t.Active > 0:
		return 2
	case t.Inactive > 0 && t.Referenced:
		return 3
	case t.Inactive > 0 && writable(t):
		return 4
	}
	return 0
}

// after does a step of a plan.
func after(t api.Tally, kind int) api.Tally {
	if kind == 1 {
		t.Objects = max(0, t.Objects-4)
	}
	if kind == 4 {
		if t.Inactive == 0 {
			t.Active--
		} else {
			t.Inactive--
		}
		t.Room, t.Slots, t.Writes, t.Referenced = t.Room-1, t.Slots-1, t.Writes+1, false
	}
	return t
}

var none = say(api.Tally{})

var far = []int{math.MinInt, -1 << 32, -1, 257, 1 << 32, math.MaxInt}

// P33.1

func TestCheck(t *testing.T) {
	bad := func(x api.Tally, e string) {
		t.Helper()
		expect(t, [][2]string{
			{say(reclaim.Check(x)), e},
			{say(reclaim.Direct(x)), "0 " + e},
			{say(reclaim.Background(x)), "0 " + e},
			{say(reclaim.Hinders(x)), "[] " + e},
			{say(reclaim.Wakes(x)), "false " + e},
			{say(reclaim.After(x, 9)), none + " " + e},
			{say(reclaim.After(x, 4)), none + " " + e},
			{say(reclaim.Plan(x, -1)), "[] " + e},
			{say(reclaim.Plan(x, 3)), "[] " + e},
			{say(reclaim.Steps(x)), "0 " + e},
			{say(reclaim.Stuck(x)), "false " + e},
		})
	}
	for _, n := range far {
		bad(with(func(t *api.Tally) { t.Free = n }), "range")
		bad(with(func(t *api.Tally) { t.Objects = n }), "range")
		bad(with(func(t *api.Tally) { t.Active = n }), "range")
		bad(with(func(t *api.Tally) { t.Inactive = n }), "range")
		bad(with(func(t *api.Tally) { t.Target = n }), "range")
		bad(with(func(t *api.Tally) { t.Slots = n }), "range")
		bad(with(func(t *api.Tally) { t.Min = n }), "range")
		bad(with(func(t *api.Tally) { t.LowMark = n }), "range")
		bad(with(func(t *api.Tally) { t.High = n }), "range")
		bad(with(func(t *api.Tally) { t.Cap = n }), "range")
		bad(with(func(t *api.Tally) { t.Writes = n }), "range")
		bad(with(func(t *api.Tally) { t.Orphans = n }), "range")
		bad(with(func(t *api.Tally) { t.Room = n }), "range")
	}
	bad(with(func(t *api.Tally) { t.Cap = 0 }), "range")
	bad(with(func(t *api.Tally) { t.Cap = 17 }), "range")
	bad(with(func(t *api.Tally) { t.Writes = 3 }), "range")
	bad(with(func(t *api.Tally) { t.Orphans = 33 }), "range")
	bad(with(func(t *api.Tally) { t.Room = 33 }), "range")
	bad(with(func(t *api.Tally) { t.LowMark = 5 }), "range")
	bad(with(func(t *api.Tally) { t.LowMark = 12 }), "range")
	bad(with(func(t *api.Tally) { t.Inactive, t.Referenced = 0, true }), "form")
	bad(with(func(t *api.Tally) { t.Inactive, t.Referenced, t.Room = 0, true, 33 }), "range")
	for _, x := range []api.Tally{base, with(func(t *api.Tally) {
		t.Free, t.Objects, t.Active, t.Inactive, t.Target, t.Slots, t.High, t.Min, t.LowMark, t.Cap, t.Writes, t.Orphans, t.Room = 256, 256, 256, 256, 256, 256, 256, 254, 255, 16, 16, 32, 32
	}), {LowMark: 1, High: 2, Cap: 1}} {
		expect(t, [][2]string{{say(reclaim.Check(x)), "ok"}})
	}
}

// P33.1, P33.2, P33.3, P33.4, P33.5, P33.6, P33.8, P33.9

func TestSteps(t *testing.T) {
	for seed := range uint64(6000) {
		x := some(seed)
		kind, back := direct(x), background(x)
		var hinders []int
		for i, h := range []bool{x.Active == 0 && x.Inactive == 0, x.Writes == x.Cap, x.Room == 0, x.Slots == 0} {
			if h {
				hinders = append(hinders, i+1)
			}
		}
		awake := x.Awake
		if x.Free < x.LowMark {
			awake = true
		}
		if x.Free >= x.High {
			awake = false
		}
		steps := (x.Objects+3)/4 + min(x.Active+x.Inactive, x.Cap-x.Writes, x.Room, x.Slots)
		expect(t, [][2]string{
			{say(reclaim.Direct(x)), say(kind, "ok")},
			{say(reclaim.Background(x)), say(back, "ok")},
			{say(reclaim.Hinders(x)), say(hinders, "ok")},
			{say(reclaim.Wakes(x)), say(awake, "ok")},
			{say(reclaim.Steps(x)), say(steps, "ok")},
			{say(reclaim.Stuck(x)), say(kind == 6, "ok")},
		})
		stuck := x.Objects == 0 && x.Writes == 0 && x.Orphans == 0 && (x.Active+x.Inactive == 0 || x.Slots == 0 || x.Room == 0)
		if stuck != (kind == 6) || back == 5 || back == 6 || back == 4 && kind != 4 {
			t.Fatal(x, kind, back)
		}
		for step := -1; step < 9; step++ {
			want := none + " range"
			if step == 1 || step == 4 || step == 5 {
				want = none + " form"
				if step == kind {
					want = say(after(x, step), "ok")
				}
			}
			expect(t, [][2]string{{say(reclaim.After(x, step)), want}})
		}
		plans(t, x)
	}
}

// plans checks Plan of several numbers of picks.
func plans(t *testing.T, x api.Tally) {
	t.Helper()
	var kinds []int
	y := x
	for n := range 14 {
		expect(t, [][2]string{{say(reclaim.Plan(x, n)), say(kinds, "ok")}})
		if len(kinds) < n {
			continue
		}
		kind := direct(y)
		if n > 0 && (kinds[n-1] == 6 || kind < kinds[n-1]) {
			if kinds[n-1] != 6 {
				t.Fatal(x, kinds, kind)
			}
			continue
		}
		kinds, y = append(kinds, kind), after(y, kind)
	}
	for _, n := range []int{-1, 1001, math.MinInt, math.MaxInt} {
		expect(t, [][2]string{{say(reclaim.Plan(x, n)), "[] range"}})
	}
}

// P33.3

func TestLongPlans(t *testing.T) {
	x := with(func(t *api.Tally) { t.Objects, t.Active, t.Cap, t.Room, t.Slots = 256, 256, 16, 32, 256 })
	l, err := reclaim.Plan(x, 1000)
	if len(l) != 1000 || err != api.OK || l[63] != 1 || l[64] != 4 || l[79] != 4 || l[80] != 5 || l[999] != 5 {
		t.Error(l, err)
	}
	expect(t, [][2]string{{say(reclaim.Steps(x)), "80 ok"}})
}

// P33.7

func TestTheoremMore(t *testing.T) {
	for seed := range uint64(6000) {
		x := some(seed)
		if stuck, _ := reclaim.Stuck(x); stuck {
			continue
		}
		for i, f := range []func(t *api.Tally){func(t *api.Tally) { t.Objects++ }, func(t *api.Tally) { t.Active++ }, func(t *api.Tally) { t.Inactive++ }, func(t *api.Tally) { t.Slots++ }, func(t *api.Tally) { t.Room++ }} {
			y := x
			f(&y)
			if stuck, err := reclaim.Stuck(y); stuck || err != api.OK {
				t.Fatal(x, i)
			}
		}
	}
}

// The examples of the chapter.

func TestExamples(t *testing.T) {
	awake := func(f func(t *api.Tally)) api.Tally {
		return with(func(t *api.Tally) { t.Awake = true; f(t) })
	}
	objects := with(func(t *api.Tally) { t.Objects = 5 })
	full := func(writes, orphans int) api.Tally {
		return with(func(t *api.Tally) { t.Slots, t.Writes, t.Orphans = 0, writes, orphans })
	}
	expect(t, [][2]string{
		{say(reclaim.Direct(base)), "4 ok"},
		{say(reclaim.Background(base)), "0 ok"},
		{say(reclaim.Wakes(base)), "true ok"},
		{say(reclaim.Stuck(base)), "false ok"},
		{say(reclaim.Background(awake(func(t *api.Tally) {}))), "4 ok"},
		{say(reclaim.Background(awake(func(t *api.Tally) { t.Target = 3 }))), "2 ok"},
		{say(reclaim.Background(awake(func(t *api.Tally) { t.Referenced = true }))), "3 ok"},
		{say(reclaim.Background(awake(func(t *api.Tally) { t.Objects = 1 }))), "1 ok"},
		{say(reclaim.Plan(base, 4)), "[4 4 5 5] ok"},
		{say(reclaim.Steps(base)), "2 ok"},
		{say(reclaim.Plan(objects, 3)), "[1 1 4] ok"},
		{say(reclaim.Steps(objects)), "4 ok"},
		{say(reclaim.Direct(full(0, 0))), "6 ok"},
		{say(reclaim.Plan(full(0, 0), 3)), "[6] ok"},
		{say(reclaim.Direct(full(1, 0))), "5 ok"},
		{say(reclaim.Direct(full(0, 1))), "5 ok"},
		{say(reclaim.Hinders(full(2, 0))), "[2 4] ok"},
		{say(reclaim.After(base, 4)), say(with(func(t *api.Tally) { t.Inactive, t.Room, t.Slots, t.Writes = 1, 3, 8, 1 }), "ok")},
		{say(reclaim.After(base, 1)), none + " form"},
		{say(reclaim.After(base, 6)), none + " range"},
		{say(reclaim.Wakes(with(func(t *api.Tally) { t.Free = 8 }))), "false ok"},
		{say(reclaim.Wakes(awake(func(t *api.Tally) { t.Free = 8 }))), "true ok"},
		{say(reclaim.Wakes(awake(func(t *api.Tally) { t.Free = 12 }))), "false ok"},
	})
}
