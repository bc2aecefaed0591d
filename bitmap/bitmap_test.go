package bitmap

import (
	"fmt"
	"math"
	"slices"
	"testing"

	"headgate/api"
)

// The tests compare the package with sets that are slices of truth values: l[i] says whether i is in the set.

// pack builds the set of a slice, as the chapter's section Terms says.
func pack(l []bool) api.Bits {
	b := api.Bits{N: len(l)}
	for i, in := range l {
		if i%64 == 0 {
			b.W = append(b.W, 0)
		}
		if in {
			b.W[i/64] |= 1 << (i % 64)
		}
	}
	return b
}

// of builds the set of the size n with some numbers.
func of(n int, numbers ...int) api.Bits {
	l := make([]bool, n)
	for _, i := range numbers {
		l[i] = true
	}
	return pack(l)
}

// equal compares two sets.
func equal(a, b api.Bits) bool { return a.N == b.N && slices.Equal(a.W, b.W) }

// zero says whether a set is the zero value.
func zero(b api.Bits) bool { return b.N == 0 && len(b.W) == 0 }

// sizes are those at which the number of words or of digits changes, and the greatest one.
var sizes = []int{0, 1, 2, 3, 4, 5, 7, 8, 31, 63, 64, 65, 70, 127, 128, 129, 192, 1023, 1024}

// patterns returns sets of a size: none, all, alternating ones, runs, and some without a rule.
func patterns(n int) [][]bool {
	rules := []func(i int) bool{
		func(i int) bool { return false },
		func(i int) bool { return true },
		func(i int) bool { return i%2 == 0 },
		func(i int) bool { return i%2 == 1 },
		func(i int) bool { return i/64%2 == 0 },
		func(i int) bool { return i/64%2 == 1 },
		func(i int) bool { return i == n-1 },
		func(i int) bool { return i != 0 },
		func(i int) bool { return i%11 < 7 },
		func(i int) bool { return i%64 > 59 || i%64 < 5 },
		func(i int) bool { return i*i%23 < 9 },
		func(i int) bool { return uint32(i+1)*2654435761>>29 < 3 },
		func(i int) bool { return uint32(i+5)*2246822519>>29 < 7 },
	}
	var all [][]bool
	for _, rule := range rules {
		l := make([]bool, n)
		for i := range l {
			l[i] = rule(i)
		}
		all = append(all, l)
	}
	return all
}

// cuts are numbers at which parts of a set of the size n begin and end.
func cuts(n int) []int {
	var l []int
	for _, i := range []int{0, 1, 2, 30, 62, 63, 64, 65, 66, 127, 128, 500, n / 2, n - 1, n} {
		if i >= 0 && i <= n {
			l = append(l, i)
		}
	}
	slices.Sort(l)
	return slices.Compact(l)
}

// each calls f for all patterns of all sizes, with a set that f must not change.
func each(t *testing.T, f func(t *testing.T, l []bool, b api.Bits)) {
	for _, n := range sizes {
		for k, l := range patterns(n) {
			t.Run(fmt.Sprintf("%d/%d", n, k), func(t *testing.T) {
				b := pack(l)
				f(t, l, b)
				if !equal(b, pack(l)) {
					t.Error("an argument was changed")
				}
			})
		}
	}
}

// far are numbers that are in no set.
var far = []int{math.MinInt, -1 << 32, -1025, -64, -1, 1025, 1 << 32, math.MaxInt}

// P1.1

func TestNew(t *testing.T) {
	for n := 0; n <= api.MaxBits; n++ {
		b, err := New(n)
		if err != api.OK || !equal(b, pack(make([]bool, n))) {
			t.Errorf("New(%d): %v %v", n, b, err)
		}
	}
	for _, n := range far {
		if b, err := New(n); err != api.ErrRange || !zero(b) {
			t.Errorf("New(%d): %v %v", n, b, err)
		}
	}
}

// invalid is a set that is not valid, and its error.
type invalid struct {
	b   api.Bits
	err api.Errno
}

// invalids returns sets that are not valid.
func invalids() []invalid {
	l := []invalid{
		{api.Bits{W: []uint64{0}}, api.ErrForm},
		{api.Bits{N: 1}, api.ErrForm},
		{api.Bits{N: 1, W: []uint64{2}}, api.ErrForm},
		{api.Bits{N: 63, W: []uint64{1 << 63}}, api.ErrForm},
		{api.Bits{N: 64, W: []uint64{0, 0}}, api.ErrForm},
		{api.Bits{N: 65, W: []uint64{0}}, api.ErrForm},
		{api.Bits{N: 65, W: []uint64{0, 2}}, api.ErrForm},
		{api.Bits{N: 70, W: []uint64{0, 1 << 6}}, api.ErrForm},
		{api.Bits{N: 70, W: []uint64{0, 1 << 63}}, api.ErrForm},
		{api.Bits{N: 1023, W: append(make([]uint64, 15), 1<<63)}, api.ErrForm},
		{api.Bits{N: 1024, W: make([]uint64, 15)}, api.ErrForm},
		{api.Bits{N: 1024, W: make([]uint64, 17)}, api.ErrForm},
		{api.Bits{N: 1025, W: make([]uint64, 17)}, api.ErrRange},
		{api.Bits{N: -1, W: make([]uint64, 1)}, api.ErrRange},
	}
	for _, n := range far {
		l = append(l, invalid{api.Bits{N: n}, api.ErrRange})
	}
	return l
}

func TestCheck(t *testing.T) {
	each(t, func(t *testing.T, l []bool, b api.Bits) {
		if err := Check(b); err != api.OK {
			t.Error(err)
		}
	})
	if err := Check(api.Bits{W: []uint64{}}); err != api.OK {
		t.Error("a slice without words:", err)
	}
	for _, c := range invalids() {
		if err := Check(c.b); err != c.err {
			t.Errorf("%v: %v, want %v", c.b, err, c.err)
		}
	}
}

// Each function reports the set before its other arguments, and gives nothing with it.
func TestInvalidSet(t *testing.T) {
	for _, c := range invalids() {
		for _, n := range []int{0, 1, -1, 2000} {
			has, e1 := Has(c.b, n)
			put, e2 := Put(c.b, n, n, true)
			count, e3 := Count(c.b, n, n)
			next, e4 := Next(c.b, n, true)
			run, e5 := Run(c.b, n, n, true)
			left, e6 := Combine(c.b, of(3), n)
			right, e7 := Combine(of(3), c.b, n)
			text, e8 := Text(c.b)
			for i, err := range []api.Errno{e1, e2, e3, e4, e5, e6, e7, e8} {
				if err != c.err {
					t.Errorf("%v, %d, call %d: %v, want %v", c.b, n, i+1, err, c.err)
				}
			}
			if has || !zero(put) || count != 0 || next != 0 || run != 0 || !zero(left) || !zero(right) || text != "" {
				t.Errorf("%v, %d: results beside an error", c.b, n)
			}
		}
	}
	form, size := api.Bits{N: 1}, api.Bits{N: -1}
	if _, err := Combine(form, size, 1); err != api.ErrForm {
		t.Error("the first set of two:", err)
	}
	if _, err := Combine(size, form, 1); err != api.ErrRange {
		t.Error("the first set of two:", err)
	}
}

// P1.2

func TestHas(t *testing.T) {
	each(t, func(t *testing.T, l []bool, b api.Bits) {
		for i, want := range l {
			if in, err := Has(b, i); err != api.OK || in != want {
				t.Error(i, in, err)
			}
		}
		for _, i := range append([]int{len(l), len(l) + 1}, far...) {
			if in, err := Has(b, i); err != api.ErrRange || in {
				t.Error(i, in, err)
			}
		}
	})
}

func TestPut(t *testing.T) {
	each(t, func(t *testing.T, l []bool, b api.Bits) {
		for _, from := range cuts(len(l)) {
			for _, to := range cuts(len(l)) {
				for _, in := range []bool{false, true} {
					c, err := Put(b, from, to, in)
					if from > to {
						if err != api.ErrRange || !zero(c) {
							t.Error(from, to, in, err)
						}
						continue
					}
					want := slices.Clone(l)
					for i := from; i < to; i++ {
						want[i] = in
					}
					if err != api.OK || !equal(c, pack(want)) {
						t.Error(from, to, in, c, err)
					}
				}
			}
		}
	})
}

func TestCount(t *testing.T) {
	each(t, func(t *testing.T, l []bool, b api.Bits) {
		for _, from := range cuts(len(l)) {
			for _, to := range cuts(len(l)) {
				n, err := Count(b, from, to)
				if from > to {
					if err != api.ErrRange || n != 0 {
						t.Error(from, to, n, err)
					}
					continue
				}
				want := 0
				for _, in := range l[from:to] {
					if in {
						want++
					}
				}
				if err != api.OK || n != want {
					t.Error(from, to, n, err, want)
				}
			}
		}
	})
}

func TestPartsOutside(t *testing.T) {
	b := of(70, 0, 63, 64, 69)
	parts := [][2]int{{-1, 0}, {-1, -1}, {-1, 70}, {3, 2}, {70, 69}, {0, 71}, {71, 71}, {70, 71}, {0, 128}}
	for _, i := range far {
		parts = append(parts, [2]int{i, 70}, [2]int{0, i}, [2]int{i, i})
	}
	for _, p := range parts {
		if c, err := Put(b, p[0], p[1], true); err != api.ErrRange || !zero(c) {
			t.Error("Put", p, c, err)
		}
		if n, err := Count(b, p[0], p[1]); err != api.ErrRange || n != 0 {
			t.Error("Count", p, n, err)
		}
	}
}

// P1.3

func TestNext(t *testing.T) {
	each(t, func(t *testing.T, l []bool, b api.Bits) {
		for _, in := range []bool{false, true} {
			for from := 0; from <= len(l); from++ {
				want, wantErr := 0, api.ErrMissing
				if i := slices.Index(l[from:], in); i >= 0 {
					want, wantErr = from+i, api.OK
				}
				if at, err := Next(b, from, in); at != want || err != wantErr {
					t.Error(from, in, at, err, want)
				}
			}
			for _, from := range append([]int{len(l) + 1}, far...) {
				if at, err := Next(b, from, in); at != 0 || err != api.ErrRange {
					t.Error(from, in, at, err)
				}
			}
		}
	})
}

// P1.4

// run looks for an aligned run by trying each aligned number.
func run(l []bool, n, align int, in bool) (int, api.Errno) {
	for at := 0; at+n <= len(l); at += align {
		if slices.Index(l[at:at+n], !in) < 0 {
			return at, api.OK
		}
	}
	return 0, api.ErrMissing
}

func TestRun(t *testing.T) {
	each(t, func(t *testing.T, l []bool, b api.Bits) {
		for _, n := range []int{1, 2, 3, 4, 5, 7, 10, 11, 63, 64, 65, 128, 1023, 1024} {
			for _, align := range []int{1, 2, 3, 4, 7, 8, 60, 63, 64, 65, 67, 512, 1023, 1024} {
				for _, in := range []bool{false, true} {
					want, wantErr := run(l, n, align, in)
					if at, err := Run(b, n, align, in); at != want || err != wantErr {
						t.Error(n, align, in, at, err, want, wantErr)
					}
				}
			}
		}
		// At most as long as the set, and not longer.
		for _, n := range []int{len(l) - 1, len(l), len(l) + 1} {
			for _, in := range []bool{false, true} {
				if n < 1 || n > api.MaxBits {
					continue
				}
				want, wantErr := run(l, n, 1, in)
				if at, err := Run(b, n, 1, in); at != want || err != wantErr {
					t.Error(n, in, at, err, want, wantErr)
				}
			}
		}
	})
	for _, n := range append([]int{0}, far...) {
		for _, p := range [][2]int{{n, 1}, {1, n}, {n, n}, {n, 1024}, {1024, n}} {
			if at, err := Run(of(70, 3), p[0], p[1], true); at != 0 || err != api.ErrRange {
				t.Error(p, at, err)
			}
		}
	}
}

// P1.5

func TestCombine(t *testing.T) {
	for _, n := range sizes {
		all := patterns(n)
		for i, x := range all {
			for j, y := range all {
				a, b := pack(x), pack(y)
				for op := 1; op <= 4; op++ {
					want := make([]bool, n)
					for k := range want {
						want[k] = []bool{x[k] || y[k], x[k] && y[k], x[k] && !y[k], x[k] != y[k]}[op-1]
					}
					if c, err := Combine(a, b, op); err != api.OK || !equal(c, pack(want)) {
						t.Error(n, i, j, op, c, err)
					}
				}
				if !equal(a, pack(x)) || !equal(b, pack(y)) {
					t.Error(n, i, j, "an argument was changed")
				}
			}
		}
	}
}

func TestCombineRange(t *testing.T) {
	for _, op := range append([]int{0, 5}, far...) {
		if c, err := Combine(of(3, 0), of(3, 1), op); err != api.ErrRange || !zero(c) {
			t.Error(op, c, err)
		}
	}
	for _, p := range [][2]int{{3, 4}, {4, 3}, {0, 1}, {1, 0}, {63, 64}, {64, 65}, {1024, 0}} {
		for op := 0; op <= 5; op++ {
			if c, err := Combine(of(p[0]), of(p[1]), op); err != api.ErrRange || !zero(c) {
				t.Error(p, op, c, err)
			}
		}
	}
}

// The rule R4: results share no memory with arguments, nor with later results.

func TestSharing(t *testing.T) {
	b := of(70, 1, 65)
	put, _ := Put(b, 5, 5, true)
	or, _ := Combine(b, b, 1)
	and, _ := Combine(b, b, 2)
	parsed, _ := Parse("70:200000000000000020")
	first, _ := New(70)
	for _, c := range []api.Bits{put, or, and, parsed, first} {
		for w := range c.W {
			c.W[w] = 12345
		}
	}
	if !equal(b, of(70, 1, 65)) {
		t.Error("a result shares the memory of an argument")
	}
	if c, _ := New(70); !equal(c, of(70)) {
		t.Error("New:", c)
	}
	if c, _ := Parse("70:200000000000000020"); !equal(c, of(70, 1, 65)) {
		t.Error("Parse:", c)
	}
}
