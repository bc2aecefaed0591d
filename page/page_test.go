package page_test

import (
	"fmt"
	"math"
	"math/big"
	"math/bits"
	"math/rand/v2"
	"slices"
	"strings"
	"testing"

	"headgate/api"
	"headgate/page"
)

// say writes values with blanks between them, errors by their names.
func say(l ...any) string { return strings.TrimSuffix(fmt.Sprintln(l...), "\n") }

// expect compares what calls gave with what they should give.
func expect(t *testing.T, l [][2]string) {
	t.Helper()
	for i, c := range l {
		if c[0] != c[1] {
			t.Errorf("case %d: %q, not %q", i, c[0], c[1])
		}
	}
}

// far are numbers of no word and no byte.
var far = []int{math.MinInt, math.MinInt + 1, -1 << 32, -65, -8, -1, 64, 65, 1 << 32, 1<<32 + 1, math.MaxInt - 7, math.MaxInt - 1, math.MaxInt}

// contents returns pages of all sorts, always the same ones.
func contents() []api.Content {
	r := rand.New(rand.NewPCG(1, 2))
	l := []api.Content{{}, {1: 0xff, 0: 0x1122334455667788}}
	for i := range 40 {
		var c api.Content
		for w := range c {
			c[w] = r.Uint64() & (math.MaxUint64 >> (i % 5 * 13)) &^ (1<<(i%3*20) - 1)
			if i%7 == 0 {
				c[w] = math.MaxUint64
			}
		}
		l = append(l, c)
	}
	return l
}

// octet returns a byte of a page, by a division.
func octet(c api.Content, k int) uint64 {
	v := new(big.Int).SetUint64(c[k/8])
	for range k % 8 {
		v.Div(v, big.NewInt(256))
	}
	return v.Mod(v, big.NewInt(256)).Uint64()
}

// P4.1, P4.5

func TestWords(t *testing.T) {
	for _, c := range contents() {
		for w := range 8 {
			if v, err := page.Get(c, w); v != c[w] || err != api.OK {
				t.Error(c, w, v, err)
			}
			for _, v := range []uint64{0, 1, c[w], math.MaxUint64} {
				want := c
				want[w] = v
				if got, err := page.Put(c, w, v); got != want || err != api.OK {
					t.Error(c, w, v, got, err)
				}
			}
		}
		for _, w := range append([]int{8}, far...) {
			if v, err := page.Get(c, w); v != 0 || err != api.ErrRange {
				t.Error(w, v, err)
			}
			if got, err := page.Put(c, w, 5); got != (api.Content{}) || err != api.ErrRange {
				t.Error(w, got, err)
			}
		}
	}
}

// P4.2, P4.5, P4.8

func TestBytes(t *testing.T) {
	for _, c := range contents() {
		for n := 1; n <= 8; n++ {
			for at := 0; at+n <= 64; at++ {
				number, power := new(big.Int), big.NewInt(1)
				for i := range n {
					b := new(big.Int).SetUint64(octet(c, at+i))
					number.Add(number, b.Mul(b, power))
					power.Mul(power, big.NewInt(256))
				}
				signed := new(big.Int).Set(number)
				if octet(c, at+n-1) >= 128 {
					signed.Sub(signed, power)
				}
				v, err := page.Bytes(c, at, n)
				if v != number.Uint64() || err != api.OK {
					t.Fatal(c, at, n, v, err, number)
				}
				if s, err := page.Signed(c, at, n); s != signed.Int64() || err != api.OK {
					t.Fatal(c, at, n, s, err, signed)
				}
				if back, err := page.PutBytes(c, at, n, v); back != c || err != api.OK {
					t.Fatal(c, at, n, back, err)
				}
			}
		}
		for w := range 8 {
			if v, err := page.Bytes(c, 8*w, 8); v != c[w] || err != api.OK {
				t.Error(c, w, v, err)
			}
		}
	}
}

func TestPutBytes(t *testing.T) {
	for i, c := range contents()[:12] {
		for n := 1; n <= 8; n++ {
			for at := 0; at+n <= 64; at++ {
				v := uint64(0x0123456789abcdef)*uint64(i+1) ^ uint64(at*n)<<40
				got, err := page.PutBytes(c, at, n, v)
				if err != api.OK {
					t.Fatal(at, n, err)
				}
				for k := range 64 {
					want := octet(c, k)
					if k >= at && k < at+n {
						want = octet(api.Content{v}, k-at)
					}
					if octet(got, k) != want {
						t.Fatal(c, at, n, v, got, k)
					}
				}
			}
		}
	}
}

func TestBytesRange(t *testing.T) {
	c := page.Fill(0x1122334455667788)
	var pairs [][2]int
	for _, x := range far {
		pairs = append(pairs, [2]int{x, 1}, [2]int{0, x}, [2]int{x, x}, [2]int{x, 0}, [2]int{x, 8}, [2]int{-x, x})
	}
	for n := 1; n <= 8; n++ {
		pairs = append(pairs, [2]int{65 - n, n}, [2]int{-1, n}, [2]int{64, n}, [2]int{math.MaxInt - n + 1, n})
	}
	pairs = append(pairs, [2]int{0, 0}, [2]int{0, 9}, [2]int{63, 0}, [2]int{64, 0}, [2]int{5, -1})
	for _, p := range pairs {
		if v, err := page.Bytes(c, p[0], p[1]); v != 0 || err != api.ErrRange {
			t.Error("Bytes", p, v, err)
		}
		if v, err := page.Signed(c, p[0], p[1]); v != 0 || err != api.ErrRange {
			t.Error("Signed", p, v, err)
		}
		if got, err := page.PutBytes(c, p[0], p[1], 7); got != (api.Content{}) || err != api.ErrRange {
			t.Error("PutBytes", p, got, err)
		}
	}
}

// P4.3, P4.7, P4.9

func TestFillDiffSum(t *testing.T) {
	for _, v := range []uint64{0, 1, 0x102, 0x1122334455667788, 1 << 63, math.MaxUint64, math.MaxUint64 - 1} {
		c := page.Fill(v)
		for w := range 8 {
			if want := v<<(8*w) | v>>(64-8*w); c[w] != want {
				t.Error(v, w, c[w])
			}
		}
	}
	all := contents()
	for _, a := range all {
		for _, b := range all {
			var want []int
			for w := range 8 {
				if a[w] != b[w] {
					want = append(want, w)
				}
			}
			got, back := page.Diff(a, b), page.Diff(b, a)
			if !slices.Equal(got, want) || !slices.Equal(back, want) || (len(got) == 0) != (a == b) {
				t.Error(a, b, got, back)
			}
		}
		s := uint64(0)
		for w := range 8 {
			s = bits.RotateLeft64(s, 7)
			s += a[w]
		}
		if got := page.Sum(a); got != s {
			t.Error(a, got, s)
		}
		for w := range 8 {
			for _, d := range []uint64{1, 1 << 31, 1 << 63, math.MaxUint64, a[w] | 1} {
				b := a
				b[w] += d
				if page.Sum(a) == page.Sum(b) {
					t.Error(a, w, d)
				}
			}
		}
	}
}

// P4.4, P4.6

func TestText(t *testing.T) {
	for _, c := range contents() {
		var words []string
		for _, v := range c {
			words = append(words, fmt.Sprintf("%016x", v))
		}
		s := strings.Join(words, " ")
		if got := page.Text(c); got != s {
			t.Error(got, s)
		}
		if got, f := page.Parse(s); got != c || f != (api.Fault{}) {
			t.Error(s, got, f)
		}
	}
}

func TestParseFaults(t *testing.T) {
	s := page.Text(page.Fill(0x0a1b2c3d4e5f6789))
	check := func(s string, err api.Errno, at int) {
		t.Helper()
		if c, f := page.Parse(s); c != (api.Content{}) || f != (api.Fault{Err: err, At: at}) {
			t.Errorf("%.20q of %d: %v %v", s, len(s), c, f)
		}
	}
	for i := range s {
		check(s[:i], api.ErrForm, i)
		for b := range 256 {
			changed := s[:i] + string([]byte{byte(b)}) + s[i+1:]
			if i%17 == 16 && b == ' ' || i%17 != 16 && (b >= '0' && b <= '9' || b >= 'a' && b <= 'f') {
				if c, f := page.Parse(changed); f != (api.Fault{}) || page.Text(c) != changed {
					t.Errorf("%q: %v %v", changed, c, f)
				}
				continue
			}
			check(changed, api.ErrForm, i)
			check(changed+"0", api.ErrLong, 135)
			check(changed[:i+1], api.ErrForm, i)
		}
	}
	check(s+" ", api.ErrLong, 135)
	check(s+s, api.ErrLong, 135)
	check(strings.Repeat("x", 136), api.ErrLong, 135)
	check(strings.Repeat("x", 135), api.ErrForm, 0)
}

// The examples of the chapter.

func TestExamples(t *testing.T) {
	c := api.Content{0x1122334455667788, 0xff}
	put, _ := page.PutBytes(c, 7, 2, 0xabcdef)
	f := page.Fill(0x0102)
	expect(t, [][2]string{
		{say(page.Get(c, 1)), "255 ok"},
		{say(page.Get(c, 8)), "0 range"},
		{say(page.Bytes(c, 0, 1)), say(0x88, "ok")},
		{say(page.Bytes(c, 6, 2)), say(0x1122, "ok")},
		{say(page.Bytes(c, 7, 3)), say(0xff11, "ok")},
		{say(page.Signed(c, 0, 1)), "-120 ok"},
		{say(page.Signed(c, 8, 1)), "-1 ok"},
		{say(page.Signed(c, 8, 2)), "255 ok"},
		{say(page.Bytes(c, 57, 8)), "0 range"},
		{say(put[0], put[1], put[2]), say(uint64(0xef22334455667788), 0xcd, 0)},
		{say(f[0], f[1], f[7]), say(0x102, 0x10200, uint64(0x200000000000001))},
		{say(page.Diff(c, api.Content{})), "[0 1]"},
		{say(page.Sum(api.Content{6: 0x1122334455667788, 7: 0xff})), say(uint64(0x9119a22ab33bc507))},
		{say(page.Parse(page.Text(c)[:134])), "[0 0 0 0 0 0 0 0] {form 134}"},
		{say(page.Parse("G")), "[0 0 0 0 0 0 0 0] {form 0}"},
	})
}
