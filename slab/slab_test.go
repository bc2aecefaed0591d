package slab_test

import (
	"fmt"
	"math"
	"slices"
	"strings"
	"testing"

	"headgate/api"
	"headgate/slab"
)

// say writes values with blanks between them, errors by their names.
func say(l ...any) string { return strings.TrimSuffix(fmt.Sprintln(l...), "\n") }

// expect compares what calls gave with what they should give.
func expect(t *testing.T, l [][2]string) {
	t.Helper()
	for i, c := range l {
		if c[0] != c[1] {
			t.Errorf("case %d: %q, not %q", i, c[0], c[1])
		}
	}
}

func one(frame int, used uint8) api.Slab { return api.Slab{Frame: frame, Used: used} }

// of makes a list of slabs: frame and places of each.
func of(l ...int) []api.Slab {
	var slabs []api.Slab
	for i := 0; i < len(l); i += 2 {
		slabs = append(slabs, one(l[i], uint8(l[i+1])))
	}
	return slabs
}

// objects returns the objects of a slab, place by place.
func objects(s api.Slab) []int {
	var l []int
	for i := range 8 {
		if s.Used/(1<<i)%2 == 1 {
			l = append(l, 8*s.Frame+i)
		}
	}
	return l
}

var far = []int{math.MinInt, -1 << 32, -8, -1, 2048, 2049, 1 << 32, 1<<32 + 8, math.MaxInt}

// P12.1

func TestCheck(t *testing.T) {
	for _, frame := range append([]int{256}, far...) {
		for _, used := range []uint8{0, 5, 255} {
			s := one(frame, used)
			expect(t, [][2]string{
				{say(slab.Check(s)), "range"},
				{say(slab.State(s)), "0 range"},
				{say(slab.Count(s)), "0 range"},
				{say(slab.Alloc(s)), "{0 0} 0 range"},
				{say(slab.Free(s, 8*frame)), "{0 0} range"},
				{say(slab.Free(s, -1)), "{0 0} range"},
				{say(slab.Objects(s)), "[] range"},
				{say(slab.CheckList([]api.Slab{s})), "range 0"},
			})
		}
	}
	for _, frame := range []int{0, 1, 255} {
		expect(t, [][2]string{{say(slab.Check(one(frame, 0))), "ok"}})
	}
	for _, c := range []struct {
		l    []api.Slab
		want string
	}{
		{nil, "ok 0"}, {of(0, 1, 1, 255, 255, 7), "ok 0"},
		{of(3, 255, 3, 255), "order 1"}, {of(4, 0, 256, 255), "state 0"}, {of(3, 1, 2, 1), "order 1"}, {of(3, 1, 2, 0), "state 1"}, {of(3, 1, 256, 0), "range 1"}, {of(3, 1, -1, 0), "range 1"}, {of(1, 1, 2, 2, 3, 3, 3, 1), "order 3"}, {of(256, 0, 1, 1), "range 0"}, {of(5, 1, 4, 1, 300, 0), "order 1"},
	} {
		expect(t, [][2]string{{say(slab.CheckList(c.l)), c.want}})
		if err := strings.Fields(c.want)[0]; err != "ok" {
			expect(t, [][2]string{{say(slab.First(c.l)), "0 " + err}, {say(slab.Total(c.l)), "0 " + err}})
		}
	}
}

// P12.2, P12.4, P12.5, P12.6

func TestPlaces(t *testing.T) {
	for _, frame := range []int{0, 1, 5, 255} {
		for used := range 256 {
			s := one(frame, uint8(used))
			l := objects(s)
			state := 2
			if len(l) == 0 {
				state = 1
			}
			if len(l) == 8 {
				state = 3
			}
			expect(t, [][2]string{
				{say(slab.State(s)), say(state, "ok")},
				{say(slab.Count(s)), say(len(l), "ok")},
				{say(slab.Objects(s)), say(l, "ok")},
			})
			lowest := 8 * frame
			for slices.Contains(l, lowest) {
				lowest++
			}
			more, object, err := slab.Alloc(s)
			if state == 3 {
				expect(t, [][2]string{{say(more, object, err), "{0 0} 0 full"}})
			} else {
				want := slices.Sorted(slices.Values(append(slices.Clone(l), lowest)))
				if object != lowest || err != api.OK || more.Frame != frame || !slices.Equal(objects(more), want) {
					t.Fatal(s, more, object, err)
				}
				if back, err := slab.Free(more, object); back != s || err != api.OK {
					t.Fatal(s, more, back, err)
				}
			}
			freeAll(t, s, l)
		}
	}
}

// freeAll checks Free for all objects near those of a slab.
func freeAll(t *testing.T, s api.Slab, l []int) {
	t.Helper()
	for object := 8*s.Frame - 9; object < 8*s.Frame+17; object++ {
		less, err := slab.Free(s, object)
		switch {
		case object < 0 || object > 2047:
			expect(t, [][2]string{{say(less, err), "{0 0} range"}})
		case !slices.Contains(l, object):
			expect(t, [][2]string{{say(less, err), "{0 0} missing"}})
		default:
			want := slices.DeleteFunc(slices.Clone(l), func(o int) bool { return o == object })
			if err != api.OK || less.Frame != s.Frame || !slices.Equal(objects(less), want) {
				t.Fatal(s, object, less, err)
			}
			if _, again, _ := slab.Alloc(less); again > object {
				t.Fatal(s, object, again)
			}
		}
	}
	for _, object := range far {
		expect(t, [][2]string{{say(slab.Free(s, object)), "{0 0} range"}})
	}
}

// P12.2, P12.7

func TestSplit(t *testing.T) {
	for frame := range 256 {
		s := one(frame, 0)
		for place := range 8 {
			next, object, err := slab.Alloc(s)
			if object != 8*frame+place || err != api.OK {
				t.Fatal(s, object, err)
			}
			expect(t, [][2]string{{say(slab.Split(object)), say(frame, place, "ok")}})
			s = next
		}
		if s.Used != 255 {
			t.Fatal(s)
		}
	}
	for _, object := range far {
		expect(t, [][2]string{{say(slab.Split(object)), "0 0 range"}})
	}
}

// P12.3

func TestLists(t *testing.T) {
	for a := range 9 {
		for b := range 9 {
			for c := range 9 {
				var l []api.Slab
				first, total := -1, 0
				for i, n := range []int{a, b, c} {
					if n == 0 {
						continue
					}
					if n < 8 && first < 0 {
						first = len(l)
					}
					total += n
					l = append(l, one(10*i, uint8(255>>(8-n))))
				}
				expect(t, [][2]string{{say(slab.First(l)), say(first, "ok")}, {say(slab.Total(l)), say(total, "ok")}})
			}
		}
	}
}

// The examples of the chapter.

func TestExamples(t *testing.T) {
	expect(t, [][2]string{
		{say(slab.State(one(5, 0))), "1 ok"},
		{say(slab.State(one(5, 1))), "2 ok"},
		{say(slab.State(one(5, 255))), "3 ok"},
		{say(slab.Alloc(one(5, 5))), "{5 7} 41 ok"},
		{say(slab.Alloc(one(5, 255))), "{0 0} 0 full"},
		{say(slab.Free(one(5, 5), 42)), "{5 1} ok"},
		{say(slab.Free(one(5, 5), 41)), "{0 0} missing"},
		{say(slab.Free(one(5, 5), 34)), "{0 0} missing"},
		{say(slab.Free(one(5, 5), 2048)), "{0 0} range"},
		{say(slab.Objects(one(5, 129))), "[40 47] ok"},
		{say(slab.Split(47)), "5 7 ok"},
		{say(slab.First(of(3, 255, 4, 1, 9, 1))), "1 ok"},
		{say(slab.First(of(3, 255))), "-1 ok"},
		{say(slab.First(nil)), "-1 ok"},
	})
}
