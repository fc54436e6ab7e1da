package span

import (
	"strconv"
	"strings"

	"ullage/api"
)

// tailBits is how many bits of a number are behind the point.
const tailBits = 32

// decimal is the text of a number: its sign, and the digits before and behind the point.
type decimal struct {
	negative    bool
	whole, tail string
}

// Read returns the span of a decimal number, rounded out.
func Read(s string) (api.Span, api.Errno) {
	if len(s) > api.MaxWord {
		return api.Span{}, api.ErrLong
	}
	d, ok := parse(s)
	if !ok {
		return api.Span{}, api.ErrForm
	}
	whole := readWhole(d.whole)
	if whole > api.MaxWhole {
		return api.Span{}, api.ErrRange
	}
	tail, rest := readTail(d.tail)
	n := whole
	for _, bit := range tail {
		n = n<<1 | uint64(bit)
	}
	return outward(d.negative, n, rest)
}

// parse divides the text of a number into its parts, and reports whether it has the form of one.
func parse(s string) (d decimal, ok bool) {
	s, d.negative = strings.CutPrefix(s, "-")
	whole, tail, point := strings.Cut(s, ".")
	if !allDigits(whole) || len(whole) > 1 && whole[0] == '0' {
		return decimal{}, false
	}
	if point && !allDigits(tail) {
		return decimal{}, false
	}
	if d.negative && allZero(whole) && allZero(tail) {
		return decimal{}, false
	}
	d.whole, d.tail = whole, tail
	return d, true
}

// allDigits reports whether s is one decimal digit or several.
func allDigits(s string) bool {
	return s != "" && strings.Trim(s, "0123456789") == ""
}

// allZero reports whether s has no other digit than 0.
func allZero(s string) bool {
	return strings.Trim(s, "0") == ""
}

// readWhole returns the integer of some digits, or a number above MaxWhole if it is above that.
func readWhole(digits string) uint64 {
	var n uint64
reading:
	for i := range len(digits) {
		digit := uint64(digits[i] - '0')
		switch {
		case n > api.MaxWhole:
			break reading // no digit makes it less, and many of them would leave 64 bits
		default:
			n = 10*n + digit
		}
	}
	return n
}

// readTail returns the first bits of the digits behind a point, and whether these are more than the bits say.
func readTail(digits string) (tail [tailBits]uint8, rest bool) {
	left := []byte(digits)
	for i := range tail {
		tail[i] = double(left)
	}
	return tail, !allZero(string(left))
}

// double doubles what some digits behind a point stand for, and returns the bit that this moves before the point.
func double(digits []byte) uint8 {
	var carry uint8
	for i := len(digits) - 1; i >= 0; i-- {
		twice := 2*(digits[i]-'0') + carry
		digits[i] = '0' + twice%10
		carry = twice / 10
	}
	return carry
}

// Text returns a number in decimal notation, exactly, and the empty string for what is no number.
func Text(n api.Num) string {
	if n == noNumber {
		return ""
	}
	var out []byte
	if n < 0 {
		out = append(out, '-')
	}
	whole := size(int64(n))
	out = strconv.AppendUint(out, whole>>tailBits, 10)
	tail := whole & (1<<tailBits - 1)
	if tail != 0 {
		out = append(out, '.')
	}
	for tail != 0 {
		tail *= 10
		out = append(out, '0'+byte(tail>>tailBits))
		tail &= 1<<tailBits - 1
	}
	return string(out)
}
