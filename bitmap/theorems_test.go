package bitmap

import (
	"strings"
	"testing"

	"headgate/api"
)

// P1.7

func TestTheoremPut(t *testing.T) {
	each(t, func(t *testing.T, l []bool, b api.Bits) {
		for _, in := range []bool{false, true} {
			for _, from := range cuts(len(l)) {
				for _, to := range cuts(len(l)) {
					if from <= to {
						checkPut(t, b, from, to, in)
					}
				}
			}
		}
	})
}

// checkPut checks that what is put is there, that nothing else changes, and that the counts of parts add up.
func checkPut(t *testing.T, b api.Bits, from, to int, in bool) {
	t.Helper()
	c, err := Put(b, from, to, in)
	if err != api.OK || Check(c) != api.OK || c.N != b.N {
		t.Fatal(from, to, in, c, err)
	}
	for i := range b.N {
		was, _ := Has(b, i)
		is, err := Has(c, i)
		if want := i >= from && i < to && in || (i < from || i >= to) && was; err != api.OK || is != want {
			t.Error(from, to, in, i, is, err)
		}
	}
	whole, _ := Count(c, 0, b.N)
	before, _ := Count(c, 0, from)
	part, _ := Count(c, from, to)
	after, _ := Count(c, to, b.N)
	if before+part+after != whole || in && part != to-from || !in && part != 0 {
		t.Error(from, to, in, before, part, after, whole)
	}
}

// P1.8

func TestTheoremNext(t *testing.T) {
	each(t, func(t *testing.T, l []bool, b api.Bits) {
		found, last := 0, -1
		for {
			at, err := Next(b, last+1, true)
			if err == api.ErrMissing {
				break
			}
			if err != api.OK || at <= last || !l[at] {
				t.Fatal(last, at, err)
			}
			found, last = found+1, at
		}
		if n, err := Count(b, 0, b.N); err != api.OK || n != found {
			t.Error(found, n, err)
		}
	})
}

// P1.9

func TestTheoremRun(t *testing.T) {
	each(t, func(t *testing.T, l []bool, b api.Bits) {
		for _, n := range []int{1, 2, 3, 5, 8, 64} {
			for _, align := range []int{1, 2, 3, 8, 64} {
				for _, in := range []bool{false, true} {
					at, err := Run(b, n, align, in)
					if err == api.OK && (at%align != 0 || !uniform(b, at, n, in)) {
						t.Error(n, align, in, at, "is no run")
					}
					before := at
					if err != api.OK {
						before = b.N
					}
					for i := 0; i < before; i += align {
						if uniform(b, i, n, in) {
							t.Error(n, align, in, at, err, "an earlier run:", i)
						}
					}
				}
			}
		}
	})
}

// uniform says whether n numbers from at on are all in the set, or all outside it.
func uniform(b api.Bits, at, n int, in bool) bool {
	count, err := Count(b, at, at+n)
	return err == api.OK && (in && count == n || !in && count == 0)
}

// P1.10

func TestTheoremCombine(t *testing.T) {
	for _, n := range sizes {
		all := patterns(n)
		for i, x := range all {
			for j, y := range all {
				a, b := pack(x), pack(y)
				or, _ := Combine(a, b, 1)
				and, _ := Combine(a, b, 2)
				left, _ := Combine(a, b, 3)
				right, _ := Combine(b, a, 3)
				one, _ := Combine(a, b, 4)
				if both, err := Combine(left, right, 1); err != api.OK || !equal(both, one) {
					t.Error(n, i, j, both, one, err)
				}
				if size(or) != size(left)+size(and)+size(right) || size(a) != size(left)+size(and) || size(b) != size(right)+size(and) || size(one) != size(left)+size(right) || size(or)+size(and) != size(a)+size(b) {
					t.Error(n, i, j, "the sizes do not add up")
				}
			}
		}
	}
}

// size returns how many numbers a set has, or a number that agrees with nothing.
func size(b api.Bits) int {
	n, err := Count(b, 0, b.N)
	if err != api.OK {
		return -1 << 20
	}
	return n
}

// P1.11

func TestTheoremText(t *testing.T) {
	each(t, func(t *testing.T, l []bool, b api.Bits) {
		s, err := Text(b)
		if err != api.OK {
			t.Fatal(err)
		}
		if c, err := Parse(s); err != api.OK || !equal(c, b) {
			t.Error(s, c, err)
		}
	})
}

// FuzzParse checks that no text makes Parse panic, and that what it reads is written as it was.
func FuzzParse(f *testing.F) {
	for _, s := range []string{"0:", "6:12", "70:0000000000000003c7", "1025:0", "06:12"} {
		f.Add(s)
	}
	f.Fuzz(func(t *testing.T, s string) {
		b, err := Parse(s)
		if err != api.OK {
			if err != api.ErrForm && err != api.ErrRange || !zero(b) {
				t.Errorf("%q: %v %v", s, b, err)
			}
			return
		}
		if back, err := Text(b); err != api.OK || back != s {
			t.Errorf("%q: %q %v", s, back, err)
		}
	})
}

// The examples of the chapter.

func TestExamples(t *testing.T) {
	b, err := New(70)
	if err != api.OK {
		t.Fatal(err)
	}
	if b, err = Put(b, 62, 67, true); err != api.OK || !equal(b, api.Bits{N: 70, W: []uint64{3 << 62, 7}}) {
		t.Fatal(b, err)
	}
	type result struct {
		n   int
		err api.Errno
	}
	got := func(n int, err api.Errno) result { return result{n, err} }
	missing := result{0, api.ErrMissing}
	for i, c := range []struct{ got, want result }{
		{got(Count(b, 0, 70)), result{5, api.OK}},
		{got(Count(b, 64, 70)), result{3, api.OK}},
		{got(Next(b, 0, true)), result{62, api.OK}},
		{got(Next(b, 63, false)), result{67, api.OK}},
		{got(Next(b, 67, true)), missing},
		{got(Run(b, 3, 1, true)), result{62, api.OK}},
		{got(Run(b, 3, 2, true)), result{62, api.OK}},
		{got(Run(b, 4, 4, true)), missing},
		{got(Run(b, 5, 1, true)), result{62, api.OK}},
		{got(Run(b, 6, 1, true)), missing},
		{got(Run(b, 3, 1, false)), result{0, api.OK}},
		{got(Run(b, 3, 67, false)), result{0, api.OK}},
		{got(Run(b, 64, 64, false)), missing},
		{got(Run(b, 4, 2, false)), result{0, api.OK}},
	} {
		if c.got != c.want {
			t.Error(i, c.got, c.want)
		}
	}
	if s, err := Text(of(6, 0, 5)); s != "6:12" || err != api.OK {
		t.Error(s, err)
	}
	if c, err := Parse("0:"); err != api.OK || !zero(c) {
		t.Error(c, err)
	}
	if c, err := Parse("1025:" + strings.Repeat("0", 257)); err != api.ErrRange || !zero(c) {
		t.Error(c, err)
	}
	for op, want := range []api.Bits{of(3, 0, 1, 2), of(3, 1), of(3, 0), of(3, 0, 2)} {
		if c, err := Combine(of(3, 0, 1), of(3, 1, 2), op+1); err != api.OK || !equal(c, want) {
			t.Error(op+1, c, err)
		}
	}
}
