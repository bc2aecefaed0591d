package queue_test

import (
	"fmt"
	"math"
	"math/rand/v2"
	"slices"
	"strings"
	"testing"

	"headgate/api"
	"headgate/queue"
)

// say writes values with blanks between them, errors by their names.
func say(l ...any) string { return strings.TrimSuffix(fmt.Sprintln(l...), "\n") }

// expect compares what calls gave with what they should give.
func expect(t *testing.T, l [][2]string) {
	t.Helper()
	for i, c := range l {
		if c[0] != c[1] {
			t.Errorf("case %d: %q, not %q", i, c[0], c[1])
		}
	}
}

// of makes a queue: its next number, then number and process of each ticket.
func of(next uint64, l ...uint64) api.Queue {
	q := api.Queue{Next: next}
	for i := 0; i < len(l); i += 2 {
		q.Waiting = append(q.Waiting, api.Ticket{Number: l[i], Proc: int(l[i+1])})
	}
	return q
}

const last = api.MaxTickets

// P6.1

func TestCheck(t *testing.T) {
	eight := of(99, 1, 8, 2, 7, 5, 6, 6, 5, 7, 4, 50, 3, 97, 2, 98, 1)
	expect(t, [][2]string{
		{say(queue.New()), "{1 []}"},
		{say(queue.Check(queue.New())), "ok 0"},
		{say(queue.Check(eight)), "ok 0"},
		{say(queue.Check(of(last+1, 1, 1, last, 2))), "ok 0"},
		{say(queue.Check(of(last + 2))), "range 0"},
		{say(queue.Check(of(math.MaxUint64, 5, 9))), "range 0"},
		{say(queue.Check(of(0))), "range 0"},
		{say(queue.Check(of(0, 3, 3, 1, 1))), "range 0"},
		{say(queue.Check(of(3, 2, 2, 1, 1))), "order 1"},
		{say(queue.Check(of(3, 2, 2, 2, 1))), "order 1"},
		{say(queue.Check(of(3, 1, 1, 2, 1))), "exists 1"},
		{say(queue.Check(of(3, 2, 1, 1, 1))), "order 1"},
		{say(queue.Check(of(9, 1, 1, 2, 2, 3, 3, 4, 1))), "exists 3"},
		{say(queue.Check(of(9, 1, 1, 3, 2, 2, 3, 4, 1))), "order 2"},
		{say(queue.Check(of(2, 2, 1))), "range 0"},
		{say(queue.Check(of(2, 0, 1))), "range 0"},
		{say(queue.Check(of(3, 1, 0))), "range 0"},
		{say(queue.Check(of(3, 1, 9))), "range 0"},
		{say(queue.Check(of(3, 1, 1, 2, math.MaxUint64))), "range 1"},
		{say(queue.Check(of(3, 1, 1, 1, 9))), "range 1"},
		{say(queue.Check(of(3, 1, 1, 1, 1))), "order 1"},
		{say(queue.Check(of(5, 1, 1, 5, 1))), "range 1"},
	})
}

func TestErrorsFirst(t *testing.T) {
	for _, c := range []struct {
		q   api.Queue
		err string
	}{{of(0), "range"}, {of(last + 2), "range"}, {of(3, 2, 2, 1, 1), "order"}, {of(3, 1, 1, 2, 1), "exists"}, {of(3, 1, 9), "range"}} {
		for _, proc := range []int{1, 5, 0, 9} {
			expect(t, [][2]string{
				{say(queue.Push(c.q, proc)), "{0 []} 0 " + c.err},
				{say(queue.Of(c.q, proc)), "0 false " + c.err},
				{say(queue.Drop(c.q, proc)), "{0 []} 0 " + c.err},
			})
		}
		expect(t, [][2]string{
			{say(queue.Head(c.q)), "{0 0} " + c.err},
			{say(queue.Position(c.q, 1)), "0 " + c.err},
			{say(queue.Done(c.q, 1)), "{0 []} 0 " + c.err},
		})
	}
	for _, proc := range []int{0, 9, -1, math.MinInt, math.MaxInt, 1<<32 + 1} {
		for _, q := range []api.Queue{of(1), of(last + 1), of(3, 1, 1)} {
			expect(t, [][2]string{
				{say(queue.Push(q, proc)), "{0 []} 0 range"},
				{say(queue.Of(q, proc)), "0 false range"},
				{say(queue.Drop(q, proc)), "{0 []} 0 range"},
			})
		}
	}
}

// P6.2, P6.3, P6.4

func TestExamples(t *testing.T) {
	two := of(3, 1, 3, 2, 2)
	expect(t, [][2]string{
		{say(queue.Push(of(1), 3)), "{2 [{1 3}]} 1 ok"},
		{say(queue.Push(of(2, 1, 3), 2)), "{3 [{1 3} {2 2}]} 2 ok"},
		{say(queue.Push(two, 3)), "{0 []} 0 busy"},
		{say(queue.Head(two)), "{1 3} ok"},
		{say(queue.Of(two, 2)), "2 true ok"},
		{say(queue.Of(two, 5)), "0 false ok"},
		{say(queue.Position(two, 1)), "0 ok"},
		{say(queue.Position(two, 2)), "1 ok"},
		{say(queue.Position(two, 3)), "0 missing"},
		{say(queue.Position(two, 0)), "0 missing"},
		{say(queue.Position(two, math.MaxUint64)), "0 missing"},
		{say(queue.Position(of(9, 2, 1, 8, 2), 5)), "0 missing"},
		{say(queue.Done(two, 1)), "{3 [{2 2}]} 3 ok"},
		{say(queue.Done(two, 2)), "{3 [{1 3}]} 2 ok"},
		{say(queue.Drop(two, 2)), "{3 [{1 3}]} 2 ok"},
		{say(queue.Drop(two, 3)), "{3 [{2 2}]} 1 ok"},
		{say(queue.Drop(two, 4)), "{0 []} 0 missing"},
		{say(queue.Done(two, 9)), "{0 []} 0 missing"},
		{say(queue.Push(of(3, 2, 2), 3)), "{4 [{2 2} {3 3}]} 3 ok"},
		{say(queue.Push(of(1), 9)), "{0 []} 0 range"},
		{say(queue.Head(of(1))), "{0 0} missing"},
		{say(queue.Done(of(1), 1)), "{0 []} 0 missing"},
		{say(queue.Drop(of(5), 1)), "{0 []} 0 missing"},
		{say(queue.Push(of(last), 1)), say("{1099511627777 [{1099511627776 1}]}", uint64(last), "ok")},
		{say(queue.Push(of(last+1), 1)), "{0 []} 0 full"},
		{say(queue.Push(of(last+1, 7, 1), 2)), "{0 []} 0 full"},
		{say(queue.Push(of(last+1, 7, 1), 1)), "{0 []} 0 busy"},
		{say(queue.Done(of(last+1, last, 1), last)), "{1099511627777 []} 1 ok"},
	})
}

// model is a queue as a list of pairs.
type model struct {
	next  uint64
	procs []int
	nums  []uint64
}

func (m model) String() string {
	q := of(m.next)
	for i := range m.procs {
		q.Waiting = append(q.Waiting, api.Ticket{Number: m.nums[i], Proc: m.procs[i]})
	}
	return say(q)
}

func (m *model) remove(at int) {
	m.procs, m.nums = slices.Delete(m.procs, at, at+1), slices.Delete(m.nums, at, at+1)
}

// P6.2, P6.4, P6.5, P6.7, P6.8

func TestRandom(t *testing.T) {
	r := rand.New(rand.NewPCG(6, 6))
	q, m := queue.New(), model{next: 1}
	for range 4000 {
		proc := 1 + r.IntN(8)
		at := slices.Index(m.procs, proc)
		before := say(q)
		switch r.IntN(3) {
		case 0:
			next, number, err := queue.Push(q, proc)
			if at >= 0 {
				expect(t, [][2]string{{say(next, number, err), "{0 []} 0 busy"}})
				break
			}
			if number != m.next || err != api.OK {
				t.Fatal(q, proc, number, err)
			}
			m.procs, m.nums, m.next = append(m.procs, proc), append(m.nums, number), m.next+1
			scribble(t, q, next)
			q, _, _ = queue.Push(q, proc)
		default:
			if at < 0 {
				expect(t, [][2]string{{say(queue.Drop(q, proc)), "{0 []} 0 missing"}})
				break
			}
			number := m.nums[at]
			dropped, n, err := queue.Drop(q, proc)
			done, p, err2 := queue.Done(q, number)
			if n != number || p != proc || err != api.OK || err2 != api.OK || say(dropped) != say(done) {
				t.Fatal(q, proc, dropped, n, err, done, p, err2)
			}
			for i, x := range m.nums {
				pos, err := queue.Position(done, x)
				was, _ := queue.Position(q, x)
				switch {
				case i == at && err != api.ErrMissing, i < at && (pos != was || pos != i), i > at && (pos != was-1 || was != i):
					t.Fatal(q, done, x, pos, was, err)
				}
			}
			m.remove(at)
			scribble(t, q, done)
			q = dropped
		}
		if say(q) != m.String() {
			t.Fatalf("%s: %v, not %v", before, q, m)
		}
		for p := 1; p <= 8; p++ {
			i := slices.Index(m.procs, p)
			want := "0 false ok"
			if i >= 0 {
				want = say(m.nums[i], true, "ok")
			}
			expect(t, [][2]string{{say(queue.Of(q, p)), want}})
		}
	}
}

// scribble writes over a result, and checks that the argument does not notice.
func scribble(t *testing.T, arg, result api.Queue) {
	t.Helper()
	before := say(arg)
	for i := range result.Waiting {
		result.Waiting[i] = api.Ticket{Number: 77, Proc: 77}
	}
	_ = append(result.Waiting, api.Ticket{Number: 78})
	if say(arg) != before {
		t.Fatal("an argument was changed", before, arg)
	}
}

func TestRoomBehind(t *testing.T) {
	q := of(9, 1, 1, 2, 2, 3, 3)
	short := api.Queue{Next: 9, Waiting: q.Waiting[:2]}
	before := say(q)
	queue.Push(short, 5)
	queue.Drop(short, 1)
	queue.Done(short, 2)
	if say(q) != before {
		t.Error("memory behind an argument was changed:", q)
	}
}

// P6.6

func TestTheoremOrder(t *testing.T) {
	r := rand.New(rand.NewPCG(7, 7))
	q := queue.New()
	var given, done []uint64
	for range 3000 {
		if proc := 1 + r.IntN(8); r.IntN(2) == 0 {
			next, number, err := queue.Push(q, proc)
			if err == api.OK {
				given, q = append(given, number), next
			}
			continue
		}
		head, err := queue.Head(q)
		if err != api.OK {
			continue
		}
		if at, err := queue.Position(q, head.Number); at != 0 || err != api.OK {
			t.Fatal(q, head, at, err)
		}
		q, _, _ = queue.Done(q, head.Number)
		done = append(done, head.Number)
	}
	if len(done) < 100 || !slices.IsSorted(given) || !slices.Equal(done, given[:len(done)]) {
		t.Error(given, done)
	}
}
