package zones_test

import (
	"fmt"
	"math"
	"math/rand/v2"
	"slices"
	"strings"
	"testing"

	"headgate/api"
	"headgate/buddy"
	"headgate/zones"
)

// say writes values with blanks between them, errors by their names.
func say(l ...any) string { return strings.TrimSuffix(fmt.Sprintln(l...), "\n") }

// expect compares what calls gave with what they should give.
func expect(t *testing.T, l [][2]string) {
	t.Helper()
	for i, c := range l {
		if c[0] != c[1] {
			t.Errorf("case %d: %q, not %q", i, c[0], c[1])
		}
	}
}

// at returns the place and the error of a result, and its error.
func at(z api.Zones, at int, err api.Errno) string { return say(at, err) }

// frames returns the frames and the error of a result.
func frames(z api.Zones, l []int, err api.Errno) string { return say(l, err) }

const none = "{0 []}"

var far = []int{math.MinInt, -1 << 32, -1, 300, 1 << 32, 1<<32 + 1, math.MaxInt}

// P11.1

func TestNewCheck(t *testing.T) {
	for frames := 1; frames <= 256; frames += 5 {
		for low := 1; low <= frames; low += 3 {
			z, err := zones.New(frames, low)
			first, _ := buddy.New(low)
			second, _ := buddy.New(frames - low)
			if err != api.OK || say(z) != say(api.Zones{Low: low, Zones: []api.Buddy{first, second}}) || zones.Check(z) != api.OK {
				t.Fatal(frames, low, z, err)
			}
		}
		expect(t, [][2]string{{say(zones.New(frames, 0)), none + " range"}, {say(zones.New(frames, frames+1)), none + " range"}})
	}
	for _, n := range append(far, 0, 257) {
		expect(t, [][2]string{{say(zones.New(n, 1)), none + " range"}, {say(zones.New(50, n)), none + " range"}})
	}
	b := func(frames int, l ...int) api.Buddy {
		z := api.Buddy{Frames: frames}
		for i := 0; i < len(l); i += 2 {
			z.Free = append(z.Free, api.Block{At: l[i], Order: l[i+1]})
		}
		return z
	}
	for _, c := range []struct {
		low int
		l   []api.Buddy
		err string
	}{
		{8, nil, "form"},
		{8, []api.Buddy{b(8)}, "form"},
		{8, []api.Buddy{b(8), b(1), b(1)}, "form"},
		{0, []api.Buddy{b(9)}, "form"},
		{0, []api.Buddy{b(0), b(1)}, "range"},
		{-1, []api.Buddy{b(-1), b(1)}, "range"},
		{7, []api.Buddy{b(8, 0, 9), b(1)}, "range"},
		{math.MaxInt, []api.Buddy{b(math.MaxInt), b(math.MaxInt)}, "range"},
		{8, []api.Buddy{b(8, 1, 1), b(1)}, "align"},
		{8, []api.Buddy{b(8), b(8, 4, 2, 0, 2)}, "order"},
		{8, []api.Buddy{b(8, 0, 2, 4, 2), b(8, 1, 1)}, "exists"},
		{8, []api.Buddy{b(8), b(8, 8, 0)}, "range"},
		{8, []api.Buddy{b(8), b(249, 1, 1)}, "align"},
		{8, []api.Buddy{b(8), b(249)}, "range"},
		{8, []api.Buddy{b(8), b(-1)}, "range"},
		{8, []api.Buddy{b(8), b(248)}, "ok"},
		{256, []api.Buddy{b(256), b(0)}, "ok"},
		{257, []api.Buddy{b(257), b(0)}, "range"},
	} {
		z := api.Zones{Low: c.low, Zones: c.l}
		expect(t, [][2]string{{say(zones.Check(z)), c.err}})
		if c.err != "ok" {
			refused(t, z, 0, c.err)
			refused(t, z, -1, c.err)
		}
	}
}

// refused checks that all functions return an error for zones.
func refused(t *testing.T, z api.Zones, n int, err string) {
	t.Helper()
	expect(t, [][2]string{
		{say(zones.Alloc(z, n, n)), none + " 0 " + err},
		{say(zones.Free(z, n, n)), none + " " + err},
		{say(zones.Which(z, n)), "0 " + err},
		{say(zones.Is(z, n)), "false " + err},
		{say(zones.Total(z)), "0 " + err},
		{say(zones.Totals(z)), "[] " + err},
		{say(zones.Take(z, n, n)), none + " [] " + err},
	})
}

// P11.2, P11.3, P11.4: what is refused.

func TestRange(t *testing.T) {
	z, _ := zones.New(100, 40)
	z, _, _ = zones.Alloc(z, 3, 0)
	for _, n := range far {
		expect(t, [][2]string{
			{say(zones.Alloc(z, n, 0)), none + " 0 range"},
			{say(zones.Alloc(z, 0, n)), none + " 0 range"},
			{say(zones.Free(z, n, 0)), none + " range"},
			{say(zones.Free(z, n, 6)), none + " range"},
			{say(zones.Free(z, 0, n)), none + " range"},
			{say(zones.Which(z, n)), "0 range"},
			{say(zones.Is(z, n)), "false range"},
			{say(zones.Take(z, 1, n)), none + " [] range"},
		})
		want := none + " [] full"
		if n < 0 {
			want = none + " [] range"
		}
		expect(t, [][2]string{{say(zones.Take(z, n, 0)), want}, {say(zones.Take(z, n, 2)), none + " [] range"}})
	}
	expect(t, [][2]string{
		{say(zones.Alloc(z, 7, 0)), none + " 0 range"},
		{say(zones.Alloc(z, 0, 2)), none + " 0 range"},
		{say(zones.Free(z, 0, 7)), none + " range"},
		{say(zones.Free(z, 99, 1)), none + " range"},
		{say(zones.Free(z, 38, 2)), none + " range"},
		{say(zones.Free(z, 100, 0)), none + " range"},
		{say(zones.Take(z, 93, 0)), none + " [] full"},
	})
}

// some returns zones after some changes, always the same ones for a number.
func some(seed uint64) api.Zones {
	r := rand.New(rand.NewPCG(seed, 11))
	frames := 1 + r.IntN(256)
	z, _ := zones.New(frames, 1+r.IntN(frames))
	for range r.IntN(12) {
		if y, _, err := zones.Alloc(z, r.IntN(7), r.IntN(2)); err == api.OK {
			z = y
		}
	}
	return z
}

// size returns how many frames zones have.
func size(z api.Zones) int { return z.Zones[0].Frames + z.Zones[1].Frames }

// scribble writes over a result, and checks that the argument does not notice.
func scribble(t *testing.T, arg api.Zones, before string, result api.Zones) {
	t.Helper()
	for i, z := range result.Zones {
		for k := range z.Free {
			z.Free[k] = api.Block{At: 77, Order: 7}
		}
		result.Zones[i].Frames = 999
	}
	if say(arg) != before {
		t.Fatal("an argument was changed:", before, arg)
	}
}

// P11.2, P11.3, P11.5, P11.6, P11.7

func TestAllocFree(t *testing.T) {
	for seed := range uint64(300) {
		z := some(seed)
		before := say(z)
		totals, _ := zones.Totals(z)
		for ord := range 7 {
			for first := range 2 {
				which := first
				if most, _ := buddy.Most(z.Zones[first], ord); most == 0 {
					which = 1 - first
				}
				b, inside, bad := buddy.Alloc(z.Zones[which], ord)
				y, at, err := zones.Alloc(z, ord, first)
				if bad != api.OK {
					expect(t, [][2]string{{say(y, at, err), none + " 0 full"}})
					continue
				}
				want := api.Zones{Low: z.Low, Zones: slices.Clone(z.Zones)}
				want.Zones[which] = b
				if at != inside+which*z.Low || err != api.OK || say(y) != say(want) || zones.Check(y) != api.OK {
					t.Fatal(z, ord, first, y, at, err)
				}
				for f := at; f < at+1<<ord; f++ {
					was, _ := zones.Is(z, f)
					is, _ := zones.Is(y, f)
					if in, _ := zones.Which(z, f); !was || is || in != which {
						t.Fatal(z, ord, first, at, f)
					}
				}
				less, _ := zones.Totals(y)
				if less[which] != totals[which]-1<<ord || less[1-which] != totals[1-which] {
					t.Fatal(totals, less)
				}
				back, err := zones.Free(y, at, ord)
				if say(back) != before || err != api.OK {
					t.Fatal(z, ord, first, back, err)
				}
				scribble(t, y, say(y), back)
				scribble(t, z, before, y)
			}
		}
		total, err := zones.Total(z)
		if total != totals[0]+totals[1] || err != api.OK {
			t.Fatal(z, totals, total, err)
		}
		looks(t, z)
	}
}

// looks checks Which, Is and Free for all frames.
func looks(t *testing.T, z api.Zones) {
	t.Helper()
	for f := -1; f <= size(z); f++ {
		which, free, err := 0, false, api.ErrRange
		if f >= 0 && f < size(z) {
			if f >= z.Low {
				which = 1
			}
			free, err = buddy.Is(z.Zones[which], f-which*z.Low)
		}
		expect(t, [][2]string{{say(zones.Which(z, f)), say(which, err)}, {say(zones.Is(z, f)), say(free, err)}})
		for ord := range 7 {
			want := none + " range"
			if err == api.OK && (f+1<<ord <= z.Low || f >= z.Low && f+1<<ord <= size(z)) {
				b, bad := buddy.Free(z.Zones[which], f-which*z.Low, ord)
				if want = none + " " + bad.Error(); bad == api.OK {
					y := api.Zones{Low: z.Low, Zones: slices.Clone(z.Zones)}
					y.Zones[which] = b
					want = say(y, bad)
				}
			}
			expect(t, [][2]string{{say(zones.Free(z, f, ord)), want}})
		}
	}
}

// P11.4, P11.8

func TestTake(t *testing.T) {
	for seed := range uint64(120) {
		z := some(seed)
		before := say(z)
		total, _ := zones.Total(z)
		for first := range 2 {
			for _, n := range []int{0, 1, total / 2, total} {
				n = min(n, total)
				y, l, err := zones.Take(z, n, first)
				want := z
				var wantFrames []int
				for range n {
					x, f, _ := zones.Alloc(want, 0, first)
					want, wantFrames = x, append(wantFrames, f)
				}
				left, _ := zones.Total(y)
				if err != api.OK || say(y) != say(want) || !slices.Equal(l, wantFrames) || left != total-n {
					t.Fatal(z, n, first, y, l, err)
				}
				slices.Sort(l)
				if len(slices.Compact(l)) != n {
					t.Fatal(z, n, l)
				}
				scribble(t, z, before, y)
			}
			expect(t, [][2]string{{say(zones.Take(z, total+1, first)), none + " [] full"}})
		}
	}
}

// The examples of the chapter.

func TestExamples(t *testing.T) {
	z, _ := zones.New(12, 8)
	expect(t, [][2]string{{say(zones.Totals(z)), "[8 4] ok"}, {say(zones.Total(z)), "12 ok"}, {at(zones.Alloc(z, 2, 1)), "8 ok"}})
	y, _, _ := zones.Alloc(z, 2, 1)
	expect(t, [][2]string{{at(zones.Alloc(y, 3, 1)), "0 ok"}})
	y, _, _ = zones.Alloc(y, 3, 1)
	expect(t, [][2]string{{at(zones.Alloc(y, 4, 0)), "0 full"}, {at(zones.Alloc(y, 0, 0)), "0 full"}})
	y = z
	for _, want := range []int{8, 9, 10, 11, 0, 1} {
		x, f, err := zones.Alloc(y, 0, 1)
		if f != want || err != api.OK {
			t.Error(y, f, err)
		}
		y = x
	}
	twelve, _ := zones.New(12, 12)
	expect(t, [][2]string{
		{say(zones.Free(z, 9, 0)), none + " exists"},
		{say(zones.Free(z, 5, 1)), none + " align"},
		{say(zones.Free(z, 7, 1)), none + " range"},
		{say(zones.Is(z, 9)), "true ok"},
		{say(zones.Which(z, 7)), "0 ok"},
		{say(zones.Which(z, 8)), "1 ok"},
		{say(zones.Which(z, 12)), "0 range"},
		{frames(zones.Take(z, 5, 1)), "[8 9 10 11 0] ok"},
		{frames(zones.Take(z, 13, 0)), "[] full"},
		{frames(zones.Take(z, 0, 0)), "[] ok"},
		{say(zones.Totals(twelve)), "[12 0] ok"},
		{at(zones.Alloc(twelve, 0, 1)), "8 ok"},
	})
}
