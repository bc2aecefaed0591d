package role_test

import (
	"fmt"
	"math"
	"math/rand/v2"
	"slices"
	"strings"
	"testing"

	"headgate/api"
	"headgate/role"
)

// say writes values with blanks between them, errors by their names.
func say(l ...any) string { return strings.TrimSuffix(fmt.Sprintln(l...), "\n") }

// expect compares what calls gave with what they should give.
func expect(t *testing.T, l [][2]string) {
	t.Helper()
	for i, c := range l {
		if c[0] != c[1] {
			t.Errorf("case %d: %q, not %q", i, c[0], c[1])
		}
	}
}

// of reads a list by its letters.
func of(s string) []int {
	var l []int
	for i := range len(s) {
		l = append(l, strings.IndexByte(".PSTMWRO", s[i]))
	}
	return l
}

// show writes a list by its letters.
func show(l []int) (s string) {
	for _, r := range l {
		s += ".PSTMWRO"[r : r+1]
	}
	return s
}

func list(l []int, err api.Errno) string           { return show(l) + say("", err) }
func listAt(l []int, err api.Errno, at int) string { return show(l) + say("", err, at) }

// may is the table of the chapter.
var may = map[int]string{0: "PSTR", 1: "", 2: ".", 3: ".", 4: ".W", 5: ".M", 6: ".TMO", 7: "."}

var far = []int{math.MinInt, -1 << 32, -1, 8, 9, 256, 1 << 32, 1<<32 + 1, math.MaxInt}

// some returns roles, always the same ones for a number.
func some(seed uint64) []int {
	r := rand.New(rand.NewPCG(seed, 16))
	l := make([]int, []int{0, 1, 5, 20, 255, 256}[seed%6])
	for i := range l {
		l[i] = r.IntN(8)
	}
	return l
}

// P16.1

func TestCheck(t *testing.T) {
	long := make([]int, 257)
	longBad := slices.Repeat([]int{9}, 257)
	for _, c := range []struct {
		l    []int
		want string
	}{
		{nil, "ok 0"}, {of(".PSTMWRO"), "ok 0"}, {long[:256], "ok 0"}, {long, "full 0"}, {longBad, "full 0"}, {[]int{8}, "role 0"}, {[]int{0, 7, -1, 9}, "role 2"}, {[]int{math.MaxInt}, "role 0"}, {[]int{1, 1 << 32}, "role 1"},
	} {
		expect(t, [][2]string{{say(role.Check(c.l)), c.want}})
		if err := strings.Fields(c.want)[0]; err != "ok" {
			for _, n := range []int{0, 1, 500} {
				expect(t, [][2]string{
					{say(role.Change(c.l, n, n)), "[] " + err},
					{say(role.Run(c.l, []api.Change{{}, {Frame: n, Role: n}})), "[] " + err + " 0"},
					{say(role.Run(c.l, nil)), "[] " + err + " 0"},
					{say(role.Of(c.l, n)), "[] " + err},
					{say(role.Counts(c.l)), "[] " + err},
					{say(role.Text(c.l)), " " + err},
				})
			}
		}
	}
}

// P16.2, P16.5

func TestMayChange(t *testing.T) {
	for from := range 8 {
		for to := range 8 {
			want := strings.Contains(may[from], ".PSTMWRO"[to:to+1])
			expect(t, [][2]string{{say(role.May(from, to)), say(want, "ok")}})
			l := []int{6, from, 5}
			got, err := role.Change(l, 1, to)
			if !want {
				expect(t, [][2]string{{say(got, err), "[] role"}})
				continue
			}
			expect(t, [][2]string{{say(got, err), say([]int{6, to, 5}, "ok")}, {say(l), say([]int{6, from, 5})}})
			was, _ := role.Counts(l)
			is, _ := role.Counts(got)
			was[from]--
			was[to]++
			if !slices.Equal(was, is) {
				t.Error(from, to, was, is)
			}
			got[0] = 3
			if l[0] != 6 {
				t.Error("an argument was changed")
			}
		}
		for _, n := range far {
			expect(t, [][2]string{
				{say(role.May(from, n)), "false role"},
				{say(role.May(n, from)), "false role"},
				{say(role.May(n, n)), "false role"},
				{say(role.Change([]int{from}, 0, n)), "[] role"},
				{say(role.Change([]int{from}, n, n)), "[] range"},
				{say(role.Change([]int{from}, n, 0)), "[] range"},
			})
		}
	}
	expect(t, [][2]string{{say(role.Change(nil, 0, 1)), "[] range"}, {say(role.Change(of(".M"), 2, 9)), "[] range"}})
}

// P16.2, P16.8

func TestRun(t *testing.T) {
	r := rand.New(rand.NewPCG(16, 17))
	for seed := range uint64(400) {
		l := some(seed)
		before := say(l)
		var changes []api.Change
		want, wantErr, wantAt := slices.Clone(l), api.OK, 0
		for i := range r.IntN(8) {
			c := api.Change{Frame: r.IntN(len(l) + 1), Role: r.IntN(9)}
			if r.IntN(10) > 0 && len(want) > 0 {
				c.Frame = r.IntN(len(l))
				if next := may[want[c.Frame]]; next != "" {
					c.Role = of(next)[r.IntN(len(next))]
				}
			}
			changes = append(changes, c)
			if wantErr != api.OK {
				continue
			}
			next, err := role.Change(want, c.Frame, c.Role)
			if err != api.OK {
				want, wantErr, wantAt = nil, err, i
				continue
			}
			want = next
		}
		expect(t, [][2]string{{say(role.Run(l, changes)), say(want, wantErr, wantAt)}, {say(l), before}})
		if wantErr == api.OK && len(changes) == 2 && changes[0].Frame != changes[1].Frame {
			expect(t, [][2]string{{say(role.Run(l, []api.Change{changes[1], changes[0]})), say(want, "ok 0")}})
		}
	}
}

// P16.3, P16.5, P16.7

func TestOfCounts(t *testing.T) {
	for seed := range uint64(100) {
		l := some(seed)
		counts, sum := make([]int, 8), 0
		for want := range 8 {
			var frames []int
			for f, r := range l {
				if r == want {
					frames = append(frames, f)
				}
			}
			expect(t, [][2]string{{say(role.Of(l, want)), say(frames, "ok")}})
			counts[want] = len(frames)
			sum += len(frames)
		}
		expect(t, [][2]string{{say(role.Counts(l)), say(counts, "ok")}})
		if sum != len(l) {
			t.Fatal(l, sum)
		}
		for _, n := range far {
			expect(t, [][2]string{{say(role.Of(l, n)), "[] role"}})
		}
	}
}

// paths returns all ways of a length from one role to another one, in order.
func paths(from, to, length int) []string {
	if length == 0 {
		if from == to {
			return []string{""}
		}
		return nil
	}
	var l []string
	for next := range 8 {
		if letter := ".PSTMWRO"[next : next+1]; strings.Contains(may[from], letter) {
			for _, rest := range paths(next, to, length-1) {
				l = append(l, letter+rest)
			}
		}
	}
	return l
}

func TestPath(t *testing.T) {
	for from := range 8 {
		for to := range 8 {
			want := " role"
			for length := range 8 {
				if l := paths(from, to, length); len(l) > 0 {
					want = l[0] + " ok"
					break
				}
			}
			expect(t, [][2]string{{list(role.Path(from, to)), want}})
		}
		l, err := role.Path(0, from)
		back, err2 := role.Path(from, 0)
		if err != api.OK || len(l) > 3 || (err2 == api.OK) != (from != 1) || from > 1 && len(back) != 1 {
			t.Error(from, l, err, back, err2)
		}
		for _, n := range far {
			expect(t, [][2]string{{say(role.Path(from, n)), "[] role"}, {say(role.Path(n, from)), "[] role"}, {say(role.Path(n, n)), "[] role"}})
		}
	}
}

// P16.4, P16.6

func TestTextParse(t *testing.T) {
	for seed := range uint64(100) {
		l := some(seed)
		expect(t, [][2]string{{say(role.Text(l)), show(l) + " ok"}, {say(role.Parse(show(l))), say(l, "{ok 0}")}})
	}
	for b := range 256 {
		s := string([]byte{byte(b)})
		if strings.Contains(".PSTMWRO", s) {
			continue
		}
		expect(t, [][2]string{
			{say(role.Parse(s)), "[] {form 0}"},
			{say(role.Parse("." + s)), "[] {form 1}"},
			{say(role.Parse("SM" + s + "x" + s)), "[] {form 2}"},
			{say(role.Parse("SM" + s + strings.Repeat(s, 253))), "[] {form 2}"},
			{say(role.Parse("SM" + s + strings.Repeat(s, 254))), "[] {long 256}"},
		})
	}
	expect(t, [][2]string{
		{say(role.Parse(strings.Repeat("M", 257))), "[] {long 256}"},
		{say(role.Parse("Mé")), "[] {form 1}"},
		{say(role.Parse("\u2ed0")), "[] {form 0}"},
		{say(role.Parse("\u012e")), "[] {form 0}"},
		{say(role.Parse("M\U0001004d")), "[] {form 1}"},
		{say(role.Parse("")), "[] {ok 0}"},
	})
}

// The examples of the chapter.

func TestExamples(t *testing.T) {
	c := func(l ...int) (changes []api.Change) {
		for i := 0; i < len(l); i += 2 {
			changes = append(changes, api.Change{Frame: l[i], Role: l[i+1]})
		}
		return changes
	}
	expect(t, [][2]string{
		{say(role.May(api.Free, api.Reserved)), "true ok"},
		{say(role.May(api.Free, api.MappedFrame)), "false ok"},
		{say(role.May(api.Free, api.Free)), "false ok"},
		{say(role.May(8, 0)), "false role"},
		{list(role.Change(of(".M"), 1, api.WritingFrame)), ".W ok"},
		{list(role.Change(of(".M"), 0, api.MappedFrame)), " role"},
		{list(role.Change(of(".M"), 2, api.Free)), " range"},
		{listAt(role.Run(of("."), c(0, api.Reserved, 0, api.MappedFrame, 0, api.WritingFrame, 0, api.Free))), ". ok 0"},
		{listAt(role.Run(of(".."), c(0, api.TableFrame, 1, api.Orphan))), " role 1"},
		{list(role.Path(api.Free, api.MappedFrame)), "RM ok"},
		{list(role.Path(api.Free, api.WritingFrame)), "RMW ok"},
		{list(role.Path(api.PoolFrame, api.Free)), " role"},
		{list(role.Path(api.Free, api.Free)), " ok"},
		{say(role.Counts(of(".PSTM"))), "[1 1 1 1 1 0 0 0] ok"},
		{say(role.Of(of("M.M"), api.MappedFrame)), "[0 2] ok"},
		{say(role.Parse(".PSTMWRO")), "[0 1 2 3 4 5 6 7] {ok 0}"},
		{say(role.Parse(".p")), "[] {form 1}"},
	})
}
