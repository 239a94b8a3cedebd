package impl

import (
	"strconv"
	"strings"
)

const MaxVar = 562949953421311

const (
	maxWidth  = 7 // of Fixed: 8 bytes would pass what an int holds
	maxGroups = 7 // of Var: MaxVar is seven groups of seven bits
	maxDigits = 9 // of ReadDec
	hexDigits = "0123456789abcdef"
)

// Fixed tells n in width bytes, the highest first; empty where it does not fit.
func Fixed(n int, width int) string {
	if width < 1 || width > maxWidth || n < 0 || n>>(8*width) != 0 {
		return ""
	}
	b := make([]byte, width)
	for i := range width {
		b[width-1-i] = byte(n >> (8 * i))
	}
	return string(b)
}

// ReadFixed tells the number in the first width bytes of s.
func ReadFixed(s string, width int) (int, bool) {
	if width < 1 || width > maxWidth || len(s) < width {
		return 0, false
	}
	n := 0
	for i := range width {
		n = n<<8 | int(s[i])
	}
	return n, true
}

// Var tells n in as few bytes as seven bits to a byte allow, the lowest first.
func Var(n int) string {
	if n < 0 || n > MaxVar {
		return ""
	}
	b := make([]byte, 0, maxGroups)
	for n > 127 {
		b = append(b, byte(n&127|128))
		n >>= 7
	}
	return string(append(b, byte(n)))
}

// ReadVar tells the number with whose Var s begins, and its length in bytes.
func ReadVar(s string) (int, int) {
	n := 0
	for i := range min(len(s), maxGroups) {
		c := int(s[i])
		n |= (c & 127) << (7 * i)
		if c > 127 {
			continue
		}
		if c == 0 && i > 0 { // Var would have ended ahead of this byte
			break
		}
		return n, i + 1
	}
	return 0, 0
}

// Hex tells each byte as two digits, the higher one first.
func Hex(s string) string {
	b := make([]byte, 2*len(s))
	for i := range len(s) {
		b[2*i] = hexDigits[s[i]>>4]
		b[2*i+1] = hexDigits[s[i]&15]
	}
	return string(b)
}

// Unhex tells the text of which Hex makes s.
func Unhex(s string) (string, bool) {
	if len(s)%2 != 0 {
		return "", false
	}
	b := make([]byte, len(s)/2)
	for i := range len(s) / 2 {
		high := strings.IndexByte(hexDigits, s[2*i])
		low := strings.IndexByte(hexDigits, s[2*i+1])
		if high < 0 || low < 0 {
			return "", false
		}
		b[i] = byte(high<<4 | low)
	}
	return string(b), true
}

// Dec tells n in decimal digits.
func Dec(n int) string {
	return strconv.Itoa(n)
}

// ReadDec tells the number of at most maxDigits digits of which Dec makes s.
func ReadDec(s string) (int, bool) {
	digits, below := strings.CutPrefix(s, "-")
	if digits == "" || len(digits) > maxDigits {
		return 0, false
	}
	n, ok := 0, true
scan:
	for i := range len(digits) {
		switch c := digits[i]; {
		case c < '0' || c > '9':
			ok = false
			break scan
		case c == '0' && i == 0 && s != "0": // Dec begins with a nought for 0 alone
			ok = false
			break scan
		default:
			n = 10*n + int(c-'0')
		}
	}
	if !ok {
		return 0, false
	}
	if below {
		n = -n
	}
	return n, true
}
