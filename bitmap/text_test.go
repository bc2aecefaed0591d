package bitmap

import (
	"strconv"
	"strings"
	"testing"

	"headgate/api"
)

// P1.6

// text writes a set digit for digit.
func text(l []bool) string {
	s := strconv.Itoa(len(l)) + ":"
	for k := 0; k < len(l); k += 4 {
		d := 0
		for i := k; i < min(k+4, len(l)); i++ {
			if l[i] {
				d += 1 << (i - k)
			}
		}
		s += strconv.FormatInt(int64(d), 16)
	}
	return s
}

func TestText(t *testing.T) {
	each(t, func(t *testing.T, l []bool, b api.Bits) {
		if s, err := Text(b); err != api.OK || s != text(l) {
			t.Error(s, err, text(l))
		}
	})
}

func TestParse(t *testing.T) {
	each(t, func(t *testing.T, l []bool, b api.Bits) {
		if c, err := Parse(text(l)); err != api.OK || !equal(c, b) {
			t.Error(text(l), c, err)
		}
	})
}

// All sets of few numbers, and beside them all texts of the same length that are none.
func TestParseSmall(t *testing.T) {
	for n := 0; n <= 9; n++ {
		good := 0
		for d := range 1 << 12 {
			for length := range 4 {
				hex := ("00" + strconv.FormatInt(int64(d), 16))
				hex = hex[len(hex)-3:]
				if d >= 1<<(4*length) {
					continue
				}
				s := strconv.Itoa(n) + ":" + hex[3-length:]
				b, err := Parse(s)
				if err != api.OK {
					if err != api.ErrForm || !zero(b) {
						t.Error(s, b, err)
					}
					continue
				}
				good++
				if back, err := Text(b); b.N != n || err != api.OK || back != s {
					t.Error(s, b, back, err)
				}
			}
		}
		if good != 1<<n {
			t.Errorf("size %d: %d texts", n, good)
		}
	}
}

func TestParseForm(t *testing.T) {
	long := strings.Repeat("0", 2500)
	for _, s := range []string{
		"", ":", "6", "12", "6:", "6:1", "6:123", "6:14", "6:18", "06:12", "00:", "0:0", "1:2", "1:8", "3:8", "5:02", ":12", " 6:12", "6 :12", "6: 12", "6:12 ", "6:12\n", "6::12", "6:1:", "6:12:", "+6:12", "-6:12", "-0:", "6.0:12", "0x6:12", "6;12", "6:1g", "6:g1", "6:1G", "8:0F", "8:A0", "8:/0", "8::0", "8:@0", "8:`0", "8:0/", "x:12", "/:12", "::12", "6/:12", "6::12", "a:123", "١:1", "1:١", "4:\x00", "4:\xff", "\x006:12", "8:é",
		// Bytes that are no digits, with as many digits behind them as their distances from 0 would ask for.
		";:000", "1;:000000", "a:" + long[:13], "A:" + long[:5], "/:" + long[:64], "1/:" + long[:67], " :" + long[:60],
		"64:00000000000000000", "64:000000000000000", "65:00000000000000002", "65:00000000000000000x",
		"1024:" + long[:255], "1024:" + long[:257], "01024:" + long[:256], "1023:" + long[:255] + "8",
		// The form of a set comes before its size.
		"1025:", "1025:" + long[:256], "1025:" + long[:258], "1025:" + long[:256] + "2", "1025:" + long[:256] + "g", "1025:G" + long[:256], "01025:" + long[:257], "9997:" + long[:2499] + "2", "9999:" + long[:2499], "9999:" + long[:2499] + "8", "10000:" + long, "10000:", "10001:" + long + "0", "99999:" + long,
		"18446744073709551616:", "18446744073709551622:12", "4294967302:12", "9223372036854775808:", strings.Repeat("9", 5000) + ":",
	} {
		if b, err := Parse(s); err != api.ErrForm || !zero(b) {
			t.Errorf("%.40q: %v %v", s, b, err)
		}
	}
}

func TestParseRange(t *testing.T) {
	for _, n := range []int{1025, 1028, 1029, 1088, 2048, 4096, 9998, 9999} {
		for _, digit := range []string{"0", "1"} {
			s := strconv.Itoa(n) + ":" + strings.Repeat("f", (n+3)/4-1) + digit
			if b, err := Parse(s); err != api.ErrRange || !zero(b) {
				t.Errorf("%d %s: %v %v", n, digit, b, err)
			}
		}
	}
	if b, err := Parse("1024:" + strings.Repeat("f", 256)); err != api.OK || b.N != 1024 {
		t.Error(b, err)
	}
}
