package tests

import (
	"math"
	"strings"
	"testing"

	"loop.example/g00765/impl"
)

// tails: what may stand behind a number without being part of it.
var tails = []string{"", "\x00", "\x7f", "\x80", "\xff\xff\xff\xff\xff\xff\xff\xff", "z9"}

func wantFixed(t *testing.T, s string, width int, n int, ok bool) {
	t.Helper()
	if m, is := impl.ReadFixed(s, width); m != n || is != ok {
		t.Errorf("ReadFixed(%q, %d) = %d, %v; want %d, %v", s, width, m, is, n, ok)
	}
}

func wantVar(t *testing.T, s string, n int, size int) {
	t.Helper()
	if m, k := impl.ReadVar(s); m != n || k != size {
		t.Errorf("ReadVar(%q) = %d, %d; want %d, %d", s, m, k, n, size)
	}
}

func wantUnhex(t *testing.T, s string, text string, ok bool) {
	t.Helper()
	if u, is := impl.Unhex(s); u != text || is != ok {
		t.Errorf("Unhex(%q) = %q, %v; want %q, %v", s, u, is, text, ok)
	}
}

func wantDec(t *testing.T, s string, n int, ok bool) {
	t.Helper()
	if m, is := impl.ReadDec(s); m != n || is != ok {
		t.Errorf("ReadDec(%q) = %d, %v; want %d, %v", s, m, is, n, ok)
	}
}

// eachText hands every text of at most most bytes, each one of signs, to f.
func eachText(signs string, most int, f func(string)) {
	row := []string{""}
	for range most + 1 {
		var next []string
		for _, s := range row {
			f(s)
			for i := range len(signs) {
				next = append(next, s+signs[i:i+1])
			}
		}
		row = next
	}
}

func TestFixedTells(t *testing.T) {
	for _, c := range []struct {
		n, width int
		want     string
	}{
		{0, 1, "\x00"}, {0, 7, "\x00\x00\x00\x00\x00\x00\x00"},
		{1, 1, "\x01"}, {255, 1, "\xff"}, {256, 1, ""}, {256, 2, "\x01\x00"},
		{258, 2, "\x01\x02"}, {258, 4, "\x00\x00\x01\x02"},
		{0x01020304050607, 7, "\x01\x02\x03\x04\x05\x06\x07"},
		{1<<56 - 1, 7, "\xff\xff\xff\xff\xff\xff\xff"}, {1 << 56, 7, ""},
		{math.MaxInt, 7, ""}, {math.MaxInt, 8, ""},
		{0, 0, ""}, {0, 8, ""}, {1, 0, ""}, {1, 8, ""},
		{0, -1, ""}, {0, math.MinInt, ""}, {0, math.MaxInt, ""},
		{-1, 1, ""}, {-1, 7, ""}, {-256, 2, ""}, {math.MinInt, 7, ""}, {-1, 8, ""},
	} {
		if s := impl.Fixed(c.n, c.width); s != c.want {
			t.Errorf("Fixed(%d, %d) = %q; want %q", c.n, c.width, s, c.want)
		}
	}
}

func TestFixedIsReadAsItWas(t *testing.T) {
	for width := 1; width <= 7; width++ {
		most := 1<<(8*width) - 1
		for _, n := range []int{0, 1, 127, 128, 255, most / 2, most/2 + 1, most - 1, most} {
			s := impl.Fixed(n, width)
			if len(s) != width {
				t.Errorf("Fixed(%d, %d) = %q", n, width, s)
			}
			for _, tail := range tails {
				wantFixed(t, s+tail, width, n, true)
			}
		}
		if s := impl.Fixed(most+1, width); s != "" {
			t.Errorf("Fixed(%d, %d) = %q; want none", most+1, width, s)
		}
	}
}

func TestReadFixedOfWrongInputs(t *testing.T) {
	long := "\x01\x02\x03\x04\x05\x06\x07\x08\x09"
	for _, width := range []int{math.MinInt, -1, 0, 8, 9, math.MaxInt} {
		wantFixed(t, long, width, 0, false)
		wantFixed(t, "", width, 0, false)
	}
	for width := 1; width <= 7; width++ {
		wantFixed(t, long[:width-1], width, 0, false)
		wantFixed(t, "", width, 0, false)
	}
}

func TestVarTells(t *testing.T) {
	for _, c := range []struct {
		n    int
		want string
	}{
		{0, "\x00"}, {1, "\x01"}, {127, "\x7f"}, {128, "\x80\x01"}, {300, "\xac\x02"},
		{16383, "\xff\x7f"}, {16384, "\x80\x80\x01"},
		{1<<42 - 1, "\xff\xff\xff\xff\xff\x7f"}, {1 << 42, "\x80\x80\x80\x80\x80\x80\x01"},
		{impl.MaxVar, "\xff\xff\xff\xff\xff\xff\x7f"}, {impl.MaxVar + 1, ""},
		{math.MaxInt, ""}, {-1, ""}, {math.MinInt, ""},
	} {
		if s := impl.Var(c.n); s != c.want {
			t.Errorf("Var(%d) = %q; want %q", c.n, s, c.want)
		}
	}
}

func TestVarIsReadAsItWas(t *testing.T) {
	numbers := []int{0, 300, 1000000, impl.MaxVar / 3}
	for groups := 1; groups <= 7; groups++ {
		end := 1 << (7 * groups)
		numbers = append(numbers, end-2, end-1)
		if groups < 7 {
			numbers = append(numbers, end, end+1)
		}
	}
	for _, n := range numbers {
		s := impl.Var(n)
		for _, tail := range tails {
			wantVar(t, s+tail, n, len(s))
		}
	}
}

func TestReadVarOfWrongInputs(t *testing.T) {
	for _, s := range []string{
		"", "\x80", "\xff", "\x80\x80\x80\x80\x80\x80", "\xff\xff\xff\xff\xff\xff", // cut off
		"\x80\x00", "\xff\x00", "\xac\x82\x00", "\x80\x80\x00", "\xff\xff\xff\xff\xff\xff\x00", "\x80\x00\x01", // a byte not needed
		"\x80\x80\x80\x80\x80\x80\x80\x01", "\xff\xff\xff\xff\xff\xff\xff\x7f", "\x81\x80\x80\x80\x80\x80\x80\x00", // past MaxVar
		"\x80\x80\x80\x80\x80\x80\x80\x80\x80\x01", "\xff\xff\xff\xff\xff\xff\xff", strings.Repeat("\x80", 100) + "\x01",
	} {
		wantVar(t, s, 0, 0)
	}
}

func TestReadVarTakesOnlyWhatVarMakes(t *testing.T) {
	taken := 0
	eachText("\x00\x01\x02\x7f\x80\x81\xff", 4, func(s string) {
		n, k := impl.ReadVar(s)
		if k == 0 && n != 0 {
			t.Errorf("ReadVar(%q) = %d, %d", s, n, k)
		}
		if k > 0 && impl.Var(n) != s[:k] {
			t.Errorf("ReadVar(%q) = %d, %d, but Var of it is %q", s, n, k, impl.Var(n))
		}
		if k > 0 {
			taken++
		}
	})
	if taken == 0 {
		t.Error("nothing was taken")
	}
}

func TestHexTells(t *testing.T) {
	for _, c := range []struct{ s, want string }{
		{"", ""}, {"\x00", "00"}, {"a\xff", "61ff"}, {"\x01\x23\x45\x67\x89\xab\xcd\xef", "0123456789abcdef"}, {"\n\x80", "0a80"},
	} {
		if h := impl.Hex(c.s); h != c.want {
			t.Errorf("Hex(%q) = %q; want %q", c.s, h, c.want)
		}
		wantUnhex(t, c.want, c.s, true)
	}
}

func TestHexIsReadAsItWas(t *testing.T) {
	all := ""
	for c := range 256 {
		s := string([]byte{byte(c)})
		all += s
		wantUnhex(t, impl.Hex(s), s, true)
	}
	wantUnhex(t, impl.Hex(all), all, true)
}

func TestUnhexOfWrongInputs(t *testing.T) {
	for _, s := range []string{
		"6", "61f", "61ff0", // odd
		"6F", "F6", "AB", "61fF", "0g", "g0", "/0", ":0", "0`", " 1", "1 ", "61 f", "0x", "-1", "61ff\n0", "\x000", "0\xff", "61zz", "\xc3\xa9",
	} {
		wantUnhex(t, s, "", false)
	}
}

func TestUnhexTakesOnlyWhatHexMakes(t *testing.T) {
	taken := 0
	for c := range 256 * 256 {
		s := string([]byte{byte(c >> 8), byte(c)})
		u, ok := impl.Unhex(s)
		if ok && impl.Hex(u) != s || !ok && u != "" {
			t.Errorf("Unhex(%q) = %q, %v", s, u, ok)
		}
		if ok {
			taken++
		}
	}
	if taken != 256 {
		t.Errorf("%d texts of two bytes were taken; want 256", taken)
	}
}

func TestDecTells(t *testing.T) {
	for _, c := range []struct {
		n    int
		want string
	}{
		{0, "0"}, {7, "7"}, {-7, "-7"}, {10, "10"}, {-120, "-120"}, {1000000, "1000000"},
		{999999999, "999999999"}, {-1000000000, "-1000000000"},
		{math.MaxInt, "9223372036854775807"}, {math.MinInt, "-9223372036854775808"},
	} {
		if s := impl.Dec(c.n); s != c.want {
			t.Errorf("Dec(%d) = %q; want %q", c.n, s, c.want)
		}
	}
}

func TestDecIsReadAsItWas(t *testing.T) {
	for n := -1100; n <= 1100; n++ {
		wantDec(t, impl.Dec(n), n, true)
	}
	for ten := 1; ten <= 100000000; ten *= 10 {
		for _, n := range []int{ten - 1, ten, ten + 1, 9 * ten} {
			wantDec(t, impl.Dec(n), n, true)
			wantDec(t, impl.Dec(-n), -n, true)
		}
	}
	wantDec(t, "999999999", 999999999, true)
	wantDec(t, "-999999999", -999999999, true)
	wantDec(t, "-123456789", -123456789, true)
}

func TestReadDecOfWrongInputs(t *testing.T) {
	for _, s := range []string{
		"", "-", "+", "--", "--1", "-+1", "+1", "+0", "-0", // signs
		"00", "01", "-01", "-00", "007", "0000000001", "000000001", // needless noughts
		" 1", "1 ", "1 2", " ", "1\n", "\t1", // blanks
		"1000000000", "-1000000000", "9999999999", "9223372036854775807", "-9223372036854775808", // too many digits
		"18446744073709551617", strings.Repeat("9", 100),
		"1a", "a", "1.0", "1e3", "0x1", "1_0", "1-", "1-1", "/", ":", "1/", "1:", "\x00", "1\x00", "\xff", "٣",
	} {
		wantDec(t, s, 0, false)
	}
}

func TestReadDecTakesOnlyWhatDecMakes(t *testing.T) {
	taken := 0
	eachText("-+01 9a", 5, func(s string) {
		n, ok := impl.ReadDec(s)
		if ok && impl.Dec(n) != s || !ok && n != 0 {
			t.Errorf("ReadDec(%q) = %d, %v", s, n, ok)
		}
		if ok {
			taken++
		}
	})
	// 0, and of 1 to 5 digits 1 0 9, or of 1 to 4 behind a -, those that begin with 1 or 9.
	if want := 1 + 2*(1+3+9+27+81) + 2*(1+3+9+27); taken != want {
		t.Errorf("%d texts were taken; want %d", taken, want)
	}
}
