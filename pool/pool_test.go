package pool_test

import (
	"fmt"
	"math"
	"math/rand/v2"
	"slices"
	"strings"
	"testing"

	"headgate/api"
	"headgate/pool"
)

// say writes values with blanks between them, errors by their names.
func say(l ...any) string { return strings.TrimSuffix(fmt.Sprintln(l...), "\n") }

// expect compares what calls gave with what they should give.
func expect(t *testing.T, l [][2]string) {
	t.Helper()
	for i, c := range l {
		if c[0] != c[1] {
			t.Errorf("case %d: %q, not %q", i, c[0], c[1])
		}
	}
}

func of(size int, free ...int) api.Pool { return api.Pool{Size: size, Free: free} }

var far = []int{math.MinInt, -1 << 32, -1, 33, 64, 1 << 32, 1<<32 + 1, math.MaxInt}

const none = "{0 []}"

// P14.1

func TestNewFramesCheck(t *testing.T) {
	for size := 1; size <= 32; size++ {
		var all []int
		frames := 0
		for d := range size {
			all = append(all, d)
			if d%8 == 0 {
				frames++
			}
		}
		expect(t, [][2]string{
			{say(pool.New(size)), say(of(size, all...), "ok")},
			{say(pool.Frames(size)), say(frames, "ok")},
			{say(pool.Check(of(size, all...))), "ok 0"},
			{say(pool.Check(of(size))), "ok 0"},
			{say(pool.Check(of(size, size))), "range 0"},
		})
	}
	for _, size := range append([]int{0}, far...) {
		expect(t, [][2]string{{say(pool.New(size)), none + " range"}, {say(pool.Frames(size)), "0 range"}})
		refused(t, of(size), "range 0")
		refused(t, of(size, 9, 3), "range 0")
	}
	refused(t, of(3, 2, 1), "order 1")
	refused(t, of(3, 1, 1), "order 1")
	refused(t, of(3, 0, 1, 3), "range 2")
	refused(t, of(3, 0, -1), "range 1")
	refused(t, of(3, 3), "range 0")
	refused(t, of(3, 2, 0, 5), "order 1")
	refused(t, of(3, 2, 5, 0), "range 1")
	refused(t, of(32, 31, math.MaxInt), "range 1")
	refused(t, of(32, math.MinInt), "range 0")
}

// refused checks that all functions return an error for a pool.
func refused(t *testing.T, p api.Pool, want string) {
	t.Helper()
	err := strings.Fields(want)[0]
	expect(t, [][2]string{{say(pool.Check(p)), want}})
	for _, d := range []int{0, 2, 99} {
		expect(t, [][2]string{
			{say(pool.Take(p)), none + " 0 " + err},
			{say(pool.Give(p, d)), none + " " + err},
			{say(pool.Left(p)), "0 " + err},
			{say(pool.Taken(p)), "[] " + err},
			{say(pool.Home(p, d)), "0 0 " + err},
		})
	}
}

// P14.2, P14.3, P14.4, P14.5

func TestPools(t *testing.T) {
	r := rand.New(rand.NewPCG(14, 14))
	for i := range 600 {
		size := 1 + i%32
		var free, taken []int
		for d := range size {
			if r.IntN(1+i%5) > 0 {
				taken = append(taken, d)
			} else {
				free = append(free, d)
			}
		}
		p := of(size, free...)
		before := say(p)
		expect(t, [][2]string{{say(pool.Left(p)), say(len(free), "ok")}, {say(pool.Taken(p)), say(taken, "ok")}})
		if len(free) == 0 {
			expect(t, [][2]string{{say(pool.Take(p)), none + " 0 full"}})
		} else {
			q, d, err := pool.Take(p)
			if d != free[0] || err != api.OK || say(q) != say(of(size, free[1:]...)) {
				t.Fatal(p, q, d, err)
			}
			if now, _ := pool.Taken(q); !slices.Contains(now, d) {
				t.Fatal(p, q, d)
			}
			expect(t, [][2]string{{say(pool.Give(q, d)), before + " ok"}})
			for k := range q.Free {
				q.Free[k] = 77
			}
		}
		for d := range size {
			want := none + " exists"
			if slices.Contains(taken, d) {
				want = say(of(size, slices.Sorted(slices.Values(append(slices.Clone(free), d)))...), "ok")
			}
			q, err := pool.Give(p, d)
			expect(t, [][2]string{{say(q, err), want}, {say(pool.Home(p, d)), say(d/8, d%8, "ok")}})
			for k := range q.Free {
				q.Free[k] = 77
			}
		}
		for _, d := range append([]int{size}, far...) {
			expect(t, [][2]string{{say(pool.Give(p, d)), none + " range"}, {say(pool.Home(p, d)), "0 0 range"}})
		}
		if say(p) != before {
			t.Fatal("an argument was changed:", before, p)
		}
	}
}

// P14.6, P14.7

func TestTheoremAll(t *testing.T) {
	for size := 1; size <= 32; size++ {
		p, _ := pool.New(size)
		frames, _ := pool.Frames(size)
		homes := map[[2]int]bool{}
		for want := range size {
			q, d, err := pool.Take(p)
			if d != want || err != api.OK {
				t.Fatal(size, p, d, err)
			}
			frame, place, err := pool.Home(q, d)
			if err != api.OK || frame < 0 || frame >= frames || place < 0 || place >= 8 || homes[[2]int{frame, place}] {
				t.Fatal(size, d, frame, place, err)
			}
			homes[[2]int{frame, place}] = true
			p = q
		}
		expect(t, [][2]string{{say(pool.Take(p)), none + " 0 full"}})
	}
}

// The examples of the chapter.

func TestExamples(t *testing.T) {
	expect(t, [][2]string{
		{say(pool.Frames(1)), "1 ok"},
		{say(pool.Frames(8)), "1 ok"},
		{say(pool.Frames(9)), "2 ok"},
		{say(pool.Frames(32)), "4 ok"},
		{say(pool.Frames(33)), "0 range"},
		{say(pool.New(3)), "{3 [0 1 2]} ok"},
		{say(pool.Take(of(3, 0, 1, 2))), "{3 [1 2]} 0 ok"},
		{say(pool.Take(of(3, 1, 2))), "{3 [2]} 1 ok"},
		{say(pool.Give(of(3, 2), 0)), "{3 [0 2]} ok"},
		{say(pool.Give(of(3, 2), 2)), none + " exists"},
		{say(pool.Give(of(3, 2), 3)), none + " range"},
		{say(pool.Left(of(3, 2))), "1 ok"},
		{say(pool.Taken(of(3, 2))), "[0 1] ok"},
		{say(pool.Take(of(3))), none + " 0 full"},
		{say(pool.Home(of(9), 8)), "1 0 ok"},
		{say(pool.Home(of(9), 9)), "0 0 range"},
		{say(pool.Check(of(3, 2, 1))), "order 1"},
		{say(pool.Check(of(3, 3))), "range 0"},
	})
}
