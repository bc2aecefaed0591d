package order_test

import (
	"fmt"
	"math"
	"math/rand/v2"
	"slices"
	"strings"
	"testing"

	"headgate/api"
	"headgate/order"
)

// say writes values with blanks between them, errors by their names.
func say(l ...any) string { return strings.TrimSuffix(fmt.Sprintln(l...), "\n") }

// expect compares what calls gave with what they should give.
func expect(t *testing.T, l [][2]string) {
	t.Helper()
	for i, c := range l {
		if c[0] != c[1] {
			t.Errorf("case %d: %q, not %q", i, c[0], c[1])
		}
	}
}

// of makes a list of blocks: At and Order of each.
func of(l ...int) []api.Block {
	var blocks []api.Block
	for i := 0; i < len(l); i += 2 {
		blocks = append(blocks, api.Block{At: l[i], Order: l[i+1]})
	}
	return blocks
}

// one makes a block.
func one(at, ord int) api.Block { return api.Block{At: at, Order: ord} }

// valid calls f for all valid blocks.
func valid(f func(b api.Block)) {
	for ord := range 7 {
		for at := 0; at < 256; at += 1 << ord {
			f(one(at, ord))
		}
	}
}

// frames returns the frames of a block.
func frames(b api.Block) []int {
	var l []int
	for i := range 1 << b.Order {
		l = append(l, b.At+i)
	}
	return l
}

// P8.1, P8.4

func TestLogLeastSize(t *testing.T) {
	check := func(n int) {
		log, err := order.Log(n)
		least, err2 := order.Least(n)
		if err != api.OK || err2 != api.OK || 1<<log > n || n>>log > 1 {
			t.Error(n, log, err, least, err2)
		}
		power := n&(n-1) == 0
		if power && least != log || !power && least != log+1 {
			t.Error(n, log, least)
		}
	}
	for n := 1; n < 3000; n++ {
		check(n)
	}
	for k := 12; k < 63; k++ {
		check(1 << k)
		check(1<<k - 1)
		check(1<<k + 1)
	}
	check(math.MaxInt)
	for _, n := range []int{0, -1, -8, math.MinInt, -1 << 32} {
		expect(t, [][2]string{{say(order.Log(n)), "0 range"}, {say(order.Least(n)), "0 range"}})
	}
	for ord := -3; ord < 70; ord++ {
		want := "0 range"
		if ord >= 0 && ord <= 6 {
			want = say(1<<ord, "ok")
		}
		expect(t, [][2]string{{say(order.Size(ord)), want}})
	}
	expect(t, [][2]string{{say(order.Size(math.MinInt)), "0 range"}, {say(order.Size(math.MaxInt)), "0 range"}, {say(order.Size(1<<32 + 1)), "0 range"}})
}

// P8.2

func TestCheck(t *testing.T) {
	for ord := -2; ord < 9; ord++ {
		for at := -130; at < 400; at++ {
			want := api.OK
			switch {
			case ord < 0 || ord > 6 || at < 0:
				want = api.ErrRange
			case at%(1<<ord) != 0:
				want = api.ErrAlign
			case at+(1<<ord) > 256:
				want = api.ErrRange
			}
			if err := order.Check(one(at, ord)); err != want {
				t.Fatal(at, ord, err, want)
			}
			if err, i := order.CheckList(of(at, ord)); err != want || i != 0 {
				t.Fatal(at, ord, err, i, want)
			}
			parentWant := want
			if want == api.OK && ord == 6 {
				parentWant = api.ErrRange
			}
			b, err := order.Buddy(one(at, ord))
			p, err2 := order.Parent(one(at, ord))
			if err != parentWant || err2 != parentWant || err != api.OK && (b != api.Block{} || p != api.Block{}) {
				t.Fatal(at, ord, b, err, p, err2)
			}
		}
	}
	for _, b := range of(math.MaxInt, 0, math.MinInt, 3, 0, math.MaxInt, 0, math.MinInt, 1<<32, 0, 1<<62, 6, -1, 9, 256, 0) {
		if err := order.Check(b); err != api.ErrRange {
			t.Error(b, err)
		}
	}
	if err := order.Check(one(math.MaxInt, 1)); err != api.ErrAlign {
		t.Error(err)
	}
}

func TestCheckList(t *testing.T) {
	bad := func(l []api.Block, err api.Errno, at int) {
		t.Helper()
		expect(t, [][2]string{
			{say(order.CheckList(l)), say(err, at)},
			{say(order.Join(l)), say("[]", err)},
			{say(order.Frames(l)), say("[]", err)},
		})
	}
	bad(of(0, 1, 1, 0), api.ErrOrder, 1)
	bad(of(0, 0, 0, 0), api.ErrOrder, 1)
	bad(of(4, 0, 2, 0, 0, 9), api.ErrOrder, 1)
	bad(of(4, 0, 2, 2), api.ErrAlign, 1)
	bad(of(4, 2, 6, 1), api.ErrOrder, 1)
	bad(of(0, 6, 64, 6, 128, 6, 192, 6, 255, 0), api.ErrOrder, 4)
	bad(of(0, 0, 3, 1, 1, 0), api.ErrAlign, 1)
	bad(of(0, 0, 300, 0, 1, 9), api.ErrRange, 1)
	bad(of(-1, 0), api.ErrRange, 0)
	bad(of(8, 3, 0, 3), api.ErrOrder, 1)
	expect(t, [][2]string{
		{say(order.CheckList(nil)), "ok 0"},
		{say(order.CheckList(of(0, 0, 1, 0, 2, 1, 255, 0))), "ok 0"},
		{say(order.Join(nil)), "[] ok"},
		{say(order.Frames(nil)), "[] ok"},
	})
}

// P8.3, P8.5

func TestBuddyParent(t *testing.T) {
	valid(func(b api.Block) {
		if b.Order == 6 {
			return
		}
		buddy, err := order.Buddy(b)
		back, err2 := order.Buddy(buddy)
		parent, err3 := order.Parent(b)
		same, err4 := order.Parent(buddy)
		if err != api.OK || err2 != api.OK || err3 != api.OK || err4 != api.OK || back != b || same != parent || buddy == b {
			t.Fatal(b, buddy, back, parent, same)
		}
		both := append(frames(b), frames(buddy)...)
		slices.Sort(both)
		if parent.Order != b.Order+1 || !slices.Equal(frames(parent), both) {
			t.Fatal(b, buddy, parent)
		}
	})
}

// P8.3, P8.6

func TestCut(t *testing.T) {
	for from := -2; from <= 258; from++ {
		for to := -2; to <= 258; to++ {
			l, err := order.Cut(from, to)
			if from < 0 || to < from || to > 256 {
				if len(l) != 0 || err != api.ErrRange {
					t.Fatal(from, to, l, err)
				}
				continue
			}
			next := from
			for i, b := range l {
				if b.At != next || order.Check(b) != api.OK || i > 0 && buddies(l[i-1], b) {
					t.Fatal(from, to, l)
				}
				next += 1 << b.Order
			}
			if err != api.OK || next != to || len(l) > 2*6+(to-from)/64 {
				t.Fatal(from, to, l, err)
			}
		}
	}
	for _, p := range [][2]int{{math.MinInt, 5}, {0, math.MaxInt}, {math.MaxInt, math.MaxInt}, {5, math.MinInt}, {1 << 32, 1<<32 + 5}} {
		expect(t, [][2]string{{say(order.Cut(p[0], p[1])), "[] range"}})
	}
}

// buddies says whether b is the buddy of a, behind it.
func buddies(a, b api.Block) bool {
	return a.Order == b.Order && a.Order < 6 && b.At == a.At+1<<a.Order && a.At%(2<<a.Order) == 0
}

// divide returns blocks of the frames of a set, divided as a random source says.
func divide(set []bool, r *rand.Rand) []api.Block {
	var l []api.Block
	for at := 0; at < 256; {
		if !set[at] {
			at++
			continue
		}
		ord := r.IntN(7)
		for ord > 0 && (at%(1<<ord) != 0 || slices.Contains(set[at:at+1<<ord], false)) {
			ord--
		}
		l = append(l, one(at, ord))
		at += 1 << ord
	}
	return l
}

// P8.3, P8.7

func TestJoinFrames(t *testing.T) {
	r := rand.New(rand.NewPCG(8, 8))
	for i := range 400 {
		set := make([]bool, 256)
		var want []int
		for f := range set {
			set[f] = r.IntN(40) > i%40
			if i%3 == 0 {
				set[f] = set[f/8*8]
			}
			if set[f] {
				want = append(want, f)
			}
		}
		a, b := divide(set, r), divide(set, r)
		before := say(a)
		joined, err := order.Join(a)
		other, err2 := order.Join(b)
		if err != api.OK || err2 != api.OK || !slices.Equal(joined, other) {
			t.Fatal(a, b, joined, other)
		}
		for k := range joined {
			if k > 0 && buddies(joined[k-1], joined[k]) {
				t.Fatal(a, joined)
			}
		}
		again, _ := order.Join(joined)
		got, err := order.Frames(joined)
		first, _ := order.Frames(a)
		if !slices.Equal(again, joined) || !slices.Equal(got, want) || !slices.Equal(first, want) || err != api.OK {
			t.Fatal(a, joined, again, got)
		}
		for k := range joined {
			joined[k] = one(77, 7)
		}
		if say(a) != before {
			t.Fatal("an argument was changed:", a)
		}
	}
	for from := range 257 {
		for to := from; to <= 256; to += 7 {
			l, _ := order.Cut(from, to)
			if joined, err := order.Join(l); !slices.Equal(joined, l) || err != api.OK {
				t.Fatal(l, joined, err)
			}
		}
	}
}

// The examples of the chapter.

func TestExamples(t *testing.T) {
	expect(t, [][2]string{
		{say(order.Log(1)), "0 ok"},
		{say(order.Log(9)), "3 ok"},
		{say(order.Least(9)), "4 ok"},
		{say(order.Least(8)), "3 ok"},
		{say(order.Check(one(8, 3))), "ok"},
		{say(order.Check(one(4, 3))), "align"},
		{say(order.Buddy(one(8, 3))), "{0 3} ok"},
		{say(order.Buddy(one(16, 2))), "{20 2} ok"},
		{say(order.Parent(one(20, 2))), "{16 3} ok"},
		{say(order.Buddy(one(0, 6))), "{0 0} range"},
		{say(order.Cut(3, 13)), "[{3 0} {4 2} {8 2} {12 0}] ok"},
		{say(order.Cut(0, 256)), "[{0 6} {64 6} {128 6} {192 6}] ok"},
		{say(order.Cut(9, 9)), "[] ok"},
		{say(order.Join(of(0, 0, 1, 0, 2, 1, 8, 0))), "[{0 2} {8 0}] ok"},
		{say(order.Join(of(0, 6, 64, 6))), "[{0 6} {64 6}] ok"},
		{say(order.Join(of(2, 1, 4, 1))), "[{2 1} {4 1}] ok"},
		{say(order.Frames(of(3, 0, 8, 2))), "[3 8 9 10 11] ok"},
		{say(order.CheckList(of(0, 1, 1, 0))), "order 1"},
	})
}
