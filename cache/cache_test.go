package cache_test

import (
	"fmt"
	"math"
	"math/rand/v2"
	"slices"
	"strings"
	"testing"

	"headgate/api"
	"headgate/cache"
)

// say writes values with blanks between them, errors by their names.
func say(l ...any) string { return strings.TrimSuffix(fmt.Sprintln(l...), "\n") }

// expect compares what calls gave with what they should give.
func expect(t *testing.T, l [][2]string) {
	t.Helper()
	for i, c := range l {
		if c[0] != c[1] {
			t.Errorf("case %d: %q, not %q", i, c[0], c[1])
		}
	}
}

// of makes a list of slabs: frame and used places of each.
func of(l ...int) []api.Slab {
	var slabs []api.Slab
	for i := 0; i < len(l); i += 2 {
		slabs = append(slabs, api.Slab{Frame: l[i], Used: uint8(l[i+1])})
	}
	return slabs
}

// set returns the objects of a cache, place by place.
func set(c []api.Slab) []int {
	var l []int
	for _, s := range c {
		for i := range 8 {
			if s.Used/(1<<i)%2 == 1 {
				l = append(l, 8*s.Frame+i)
			}
		}
	}
	return l
}

// from returns the cache with some objects.
func from(objects []int) []api.Slab {
	var c []api.Slab
	for frame := range 256 {
		used := 0
		for i := range 8 {
			if slices.Contains(objects, 8*frame+i) {
				used += 1 << i
			}
		}
		if used > 0 {
			c = append(c, api.Slab{Frame: frame, Used: uint8(used)})
		}
	}
	return c
}

// some returns a cache, always the same one for a number.
func some(seed uint64) []api.Slab {
	r := rand.New(rand.NewPCG(seed, 13))
	var c []api.Slab
	frame := r.IntN(3)
	for range r.IntN(7) {
		used := 255
		if r.IntN(3) > 0 {
			used = 1 + r.IntN(255)
		}
		c = append(c, api.Slab{Frame: frame, Used: uint8(used)})
		frame += 1 + r.IntN(42)
	}
	return c
}

var far = []int{math.MinInt, -1 << 32, -8, -2, 2048, 2049, 1 << 32, 1<<32 + 8, math.MaxInt}

// P13.1

func TestCheck(t *testing.T) {
	for _, c := range []struct {
		c    []api.Slab
		want string
	}{
		{nil, "ok 0"}, {of(0, 1, 255, 255), "ok 0"},
		{of(5, 1, 5, 2), "order 1"}, {of(5, 0), "form 0"}, {of(5, 1, 4, 1), "order 1"}, {of(5, 1, 5, 0), "form 1"}, {of(256, 0), "range 0"}, {of(-1, 0), "range 0"}, {of(5, 1, 256, 1), "range 1"}, {of(5, 1, 6, 0, 300, 1), "form 1"}, {of(math.MaxInt, 1), "range 0"}, {of(math.MinInt, 1), "range 0"}, {of(1, 1, 2, 1, 2, 1), "order 2"},
	} {
		expect(t, [][2]string{{say(cache.Check(c.c)), c.want}})
		if err := strings.Fields(c.want)[0]; err != "ok" {
			for _, n := range []int{-1, 0, 7, 5000} {
				expect(t, [][2]string{
					{say(cache.Needs(c.c)), "false " + err},
					{say(cache.Take(c.c, n)), "[] 0 false " + err},
					{say(cache.Free(c.c, n)), "[] 0 " + err},
					{say(cache.Objects(c.c)), "[] " + err},
					{say(cache.Count(c.c)), "0 0 " + err},
					{say(cache.Spare(c.c)), "0 " + err},
					{say(cache.Tidy(c.c)), "[] [] " + err},
				})
			}
		}
	}
}

// scribble writes over a result, and checks that the argument does not notice.
func scribble(t *testing.T, arg []api.Slab, before string, result []api.Slab) {
	t.Helper()
	for i := range result {
		result[i] = api.Slab{Frame: 777}
	}
	_ = append(result, api.Slab{Frame: 778})
	if say(arg) != before {
		t.Fatal("an argument was changed:", before, arg)
	}
}

// P13.2, P13.6

func TestTake(t *testing.T) {
	for seed := range uint64(300) {
		c := some(seed)
		before := say(c)
		objects := set(c)
		want := -1
		for _, s := range c {
			for i := range 8 {
				if want < 0 && s.Used != 255 && !slices.Contains(objects, 8*s.Frame+i) {
					want = 8*s.Frame + i
				}
			}
		}
		expect(t, [][2]string{{say(cache.Needs(c)), say(want < 0, "ok")}})
		for frame := -1; frame < 256; frame += 3 {
			d, object, used, err := cache.Take(c, frame)
			switch {
			case want >= 0:
				if object != want || used || err != api.OK || say(d) != say(from(append(slices.Clone(objects), want))) {
					t.Fatal(c, frame, d, object, used, err)
				}
			case frame < 0:
				expect(t, [][2]string{{say(d, object, used, err), "[] 0 false full"}})
			case slices.Contains(objects, 8*frame):
				expect(t, [][2]string{{say(d, object, used, err), "[] 0 false exists"}})
			default:
				if object != 8*frame || !used || err != api.OK || say(d) != say(from(append(slices.Clone(objects), 8*frame))) {
					t.Fatal(c, frame, d, object, used, err)
				}
			}
			if err != api.OK {
				continue
			}
			back, freed, err := cache.Free(d, object)
			if say(back) != before || err != api.OK || (freed >= 0) != used || used && freed != frame {
				t.Fatal(c, frame, back, freed, err)
			}
			scribble(t, d, say(d), back)
			scribble(t, c, before, d)
		}
		for _, frame := range append([]int{256}, far...) {
			expect(t, [][2]string{{say(cache.Take(c, frame)), "[] 0 false range"}})
		}
	}
}

// P13.3

func TestFree(t *testing.T) {
	for seed := range uint64(60) {
		c := some(seed)
		before := say(c)
		objects := set(c)
		for object := range 2048 {
			d, frame, err := cache.Free(c, object)
			at := slices.Index(objects, object)
			if at < 0 {
				expect(t, [][2]string{{say(d, frame, err), "[] 0 missing"}})
				continue
			}
			rest := slices.Delete(slices.Clone(objects), at, at+1)
			want := object / 8
			for _, o := range rest {
				if o/8 == object/8 {
					want = -1
				}
			}
			if frame != want || err != api.OK || say(d) != say(from(rest)) {
				t.Fatal(c, object, d, frame, err)
			}
			scribble(t, c, before, d)
		}
		for _, object := range append([]int{-1}, far...) {
			expect(t, [][2]string{{say(cache.Free(c, object)), "[] 0 range"}})
		}
	}
}

// P13.4, P13.7

func TestLooks(t *testing.T) {
	for seed := range uint64(300) {
		c := some(seed)
		objects := set(c)
		n := len(objects)
		expect(t, [][2]string{
			{say(cache.Objects(c)), say(objects, "ok")},
			{say(cache.Count(c)), say(n, len(c), "ok")},
			{say(cache.Spare(c)), say(len(c)-(n+7)/8, "ok")},
		})
		if len(c) < (n+7)/8 || len(c) > n {
			t.Fatal(c, n)
		}
	}
}

// tidy does what the chapter says, on a set of objects.
func tidy(objects []int) ([]int, []api.Shift) {
	objects = slices.Clone(objects)
	var moves []api.Shift
	for {
		partial := slices.DeleteFunc(from(objects), func(s api.Slab) bool { return s.Used == 255 })
		if len(partial) < 2 {
			slices.Sort(objects)
			return objects, moves
		}
		high := slices.Max(set(partial[len(partial)-1:]))
		low := 8 * partial[0].Frame
		for slices.Contains(objects, low) {
			low++
		}
		moves = append(moves, api.Shift{From: high, To: low})
		objects[slices.Index(objects, high)] = low
	}
}

// P13.5, P13.7, P13.8

func TestTidy(t *testing.T) {
	for seed := range uint64(300) {
		c := some(seed)
		before := say(c)
		objects, moves := tidy(set(c))
		spare, _ := cache.Spare(c)
		d, l, err := cache.Tidy(c)
		if say(d) != say(from(objects)) || say(l) != say(moves) || err != api.OK || len(c)-len(d) != spare {
			t.Fatal(c, d, l, err, moves)
		}
		n, frames, _ := cache.Count(d)
		if n != len(objects) || frames != (n+7)/8 {
			t.Fatal(c, d, n, frames)
		}
		moved := map[int]bool{}
		for _, m := range l {
			if moved[m.From] || moved[m.To] {
				t.Fatal(c, l)
			}
			moved[m.From], moved[m.To] = true, true
		}
		expect(t, [][2]string{{say(cache.Tidy(d)), say(d, "[] ok")}})
		scribble(t, c, before, d)
	}
}

// P13.9

func TestTheoremFreeAll(t *testing.T) {
	r := rand.New(rand.NewPCG(13, 13))
	for seed := range uint64(100) {
		c := some(seed)
		var want, got []int
		for _, s := range c {
			want = append(want, s.Frame)
		}
		objects := set(c)
		r.Shuffle(len(objects), func(i, j int) { objects[i], objects[j] = objects[j], objects[i] })
		for _, o := range objects {
			d, frame, err := cache.Free(c, o)
			if err != api.OK {
				t.Fatal(c, o, err)
			}
			if c = d; frame >= 0 {
				got = append(got, frame)
			}
		}
		slices.Sort(got)
		if len(c) != 0 || !slices.Equal(got, want) {
			t.Fatal(c, got, want)
		}
	}
}

// The examples of the chapter.

func TestExamples(t *testing.T) {
	expect(t, [][2]string{
		{say(cache.Take(nil, 7)), "[{7 1}] 56 true ok"},
		{say(cache.Take(nil, -1)), "[] 0 false full"},
		{say(cache.Take(of(3, 3), 5)), "[{3 7}] 26 false ok"},
		{say(cache.Take(of(3, 255), 5)), "[{3 255} {5 1}] 40 true ok"},
		{say(cache.Take(of(3, 255), 3)), "[] 0 false exists"},
		{say(cache.Take(of(3, 255, 5, 2, 9, 1), -1)), "[{3 255} {5 3} {9 1}] 40 false ok"},
		{say(cache.Free(of(3, 1, 5, 2), 41)), "[{3 1}] 5 ok"},
		{say(cache.Free(of(3, 1, 5, 2), 40)), "[] 0 missing"},
		{say(cache.Free(of(3, 1), 2048)), "[] 0 range"},
		{say(cache.Spare(of(3, 1, 5, 6, 9, 128))), "2 ok"},
		{say(cache.Tidy(of(3, 1, 5, 6, 9, 128))), "[{3 15}] [{79 25} {42 26} {41 27}] ok"},
		{say(cache.Check(of(5, 1, 5, 2))), "order 1"},
		{say(cache.Check(of(5, 0))), "form 0"},
	})
}
