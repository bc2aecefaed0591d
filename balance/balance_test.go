package balance_test

import (
	"fmt"
	"math"
	"math/rand/v2"
	"strconv"
	"strings"
	"testing"

	"headgate/api"
	"headgate/balance"
	"headgate/lru"
)

// say writes values with blanks between them, errors by their names.
func say(l ...any) string { return strings.TrimSuffix(fmt.Sprintln(l...), "\n") }

// expect compares what calls gave with what they should give.
func expect(t *testing.T, l [][2]string) {
	t.Helper()
	for i, c := range l {
		if c[0] != c[1] {
			t.Fatalf("case %d: %.700q, not %.700q", i, c[0], c[1])
		}
	}
}

// of reads lists of 8 frames as layer 7 writes them: active / inactive, * for a referenced one.
func of(s string) api.Lists {
	l := api.Lists{Referenced: make([]bool, 8)}
	parts := strings.Split(s, "/")
	for i, to := range []*[]int{&l.Active, &l.Inactive} {
		for _, w := range strings.Fields(parts[i]) {
			n, _ := strconv.Atoi(strings.TrimSuffix(w, "*"))
			*to = append(*to, n)
			l.Referenced[n] = strings.HasSuffix(w, "*")
		}
	}
	return l
}

// some returns lists, always the same ones for a number.
func some(seed uint64) api.Lists {
	r := rand.New(rand.NewPCG(seed, 31))
	frames := []int{1, 3, 8, 20, 60, 256}[seed%6]
	l := api.Lists{Referenced: make([]bool, frames)}
	share, marks := r.IntN(11), r.IntN(4)
	for _, f := range r.Perm(frames)[:r.IntN(frames+1)] {
		if r.IntN(10) < share {
			l.Inactive = append(l.Inactive, f)
		} else {
			l.Active = append(l.Active, f)
		}
		l.Referenced[f] = r.IntN(3) < marks
	}
	return l
}

// target computes a target by trying all numbers.
func target(n int) int {
	ratio := 1
	for k := 1; k < 100; k++ {
		if float64(k*k) <= float64(n)/4 {
			ratio = k
		}
	}
	t := 0
	for t*(ratio+1) < n {
		t++
	}
	return t
}

// which says in other words what to do.
func which(l api.Lists) int {
	a, i := len(l.Active), len(l.Inactive)
	switch {
	case a > 0 && i < target(a+i):
		return 1
	case i > 0 && l.Referenced[l.Inactive[i-1]]:
		return 2
	case i > 0:
		return 3
	}
	return 0
}

var far = []int{math.MinInt, -1 << 32, -1, 257, 1 << 32, math.MaxInt}

// P31.1, P31.4

func TestRatioTarget(t *testing.T) {
	before := 0
	for n := range 257 {
		ratio, err := balance.Ratio(n)
		if ratio < 1 || ratio > 1 && 4*ratio*ratio > n || 4*(ratio+1)*(ratio+1) <= n || err != api.OK || ratio < before {
			t.Error(n, ratio, err)
		}
		before = ratio
		got, err := balance.Target(n)
		if got != target(n) || got > n || (got > 0) != (n > 0) || err != api.OK {
			t.Error(n, got, err)
		}
	}
	for _, n := range far {
		expect(t, [][2]string{{say(balance.Ratio(n)), "0 range"}, {say(balance.Target(n)), "0 range"}})
	}
}

// P31.2, P31.5, P31.6

func TestLists(t *testing.T) {
	for seed := range uint64(300) {
		l := some(seed)
		before := say(l)
		n := len(l.Active) + len(l.Inactive)
		expect(t, [][2]string{{say(balance.Which(l)), say(which(l), "ok")}, {say(balance.Lacks(l)), say(max(0, target(n)-len(l.Inactive)), "ok")}})
		steps, rest := 0, l
		for which(rest) == 1 || which(rest) == 2 {
			if which(rest) == 1 {
				rest, _, _ = lru.Demote(rest)
			} else {
				rest, _, _ = lru.Promote(rest)
			}
			steps++
			if len(rest.Active)+len(rest.Inactive) != n {
				t.Fatal(l, rest)
			}
		}
		expect(t, [][2]string{{say(balance.Steps(l)), say(steps, "ok")}, {say(l), before}})
		if what, _ := balance.Which(rest); what != 3 && (what != 0 || n > 0) {
			t.Fatal(l, rest, what)
		}
	}
	for i, l := range []api.Lists{{}, {Active: []int{1}, Referenced: make([]bool, 1)}, {Active: []int{0}, Inactive: []int{0}, Referenced: make([]bool, 1)}, {Referenced: []bool{true}}, {Referenced: make([]bool, 257)}} {
		e := []string{"range", "range", "exists", "state", "range"}[i]
		expect(t, [][2]string{{say(balance.Which(l)), "0 " + e}, {say(balance.Lacks(l)), "0 " + e}, {say(balance.Steps(l)), "0 " + e}})
	}
}

// P31.3, P31.7

func TestPart(t *testing.T) {
	for _, den := range []int{1, 2, 3, 7, 10, 100, 999, 1000} {
		for num := 0; num <= den; num += 1 + den/50 {
			for _, n := range []int{0, 1, 2, 3, 7, 100, 255, 256} {
				want := 0
				for 2*(want+1)*den-den <= 2*n*num {
					want++
				}
				expect(t, [][2]string{{say(balance.Part(n, num, den)), say(want, "ok")}})
				other, _ := balance.Part(n, den-num, den)
				if sum := want + other; sum != n && sum != n+1 {
					t.Error(n, num, den, sum)
				}
			}
		}
		expect(t, [][2]string{{say(balance.Part(5, den+1, den)), "0 range"}})
	}
	for _, n := range far {
		expect(t, [][2]string{{say(balance.Part(n, 1, 2)), "0 range"}, {say(balance.Part(5, 1001, 1001)), "0 range"}, {say(balance.Part(5, 1, 0)), "0 range"}})
		if n != 257 {
			expect(t, [][2]string{{say(balance.Part(5, n, 1000)), "0 range"}, {say(balance.Part(5, 0, n)), "0 range"}})
		}
	}
	expect(t, [][2]string{{say(balance.Part(0, 0, 0)), "0 range"}})
}

// The examples of the chapter.

func TestExamples(t *testing.T) {
	for n, want := range map[int]int{0: 1, 15: 1, 16: 2, 36: 3, 256: 8} {
		expect(t, [][2]string{{say(balance.Ratio(n)), say(want, "ok")}})
	}
	for n, want := range map[int]int{0: 0, 1: 1, 15: 8, 16: 6, 48: 12, 256: 29} {
		expect(t, [][2]string{{say(balance.Target(n)), say(want, "ok")}})
	}
	for s, want := range map[string]int{"3 2 1 /": 1, "3 2 / 1": 1, "3 / 2 1": 3, "3 / 2 1*": 2, "/ 1*": 2, "/ 1": 3, "/": 0} {
		expect(t, [][2]string{{say(balance.Which(of(s))), say(want, "ok")}})
	}
	expect(t, [][2]string{
		{say(balance.Ratio(257)), "0 range"},
		{say(balance.Lacks(of("3 2 1 /"))), "2 ok"},
		{say(balance.Steps(of("3 2 1 /"))), "2 ok"},
		{say(balance.Part(7, 1, 2)), "4 ok"},
		{say(balance.Part(7, 0, 3)), "0 ok"},
		{say(balance.Part(10, 1, 3)), "3 ok"},
		{say(balance.Part(1, 2, 1)), "0 range"},
	})
}
