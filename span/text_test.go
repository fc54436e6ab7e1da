package span_test

import (
	"math/big"
	"regexp"
	"strings"
	"testing"

	"ullage/api"
	"ullage/span"
)

// TestText: P1.2.
func TestText(t *testing.T) {
	for _, c := range []struct {
		n    api.Num
		want string
	}{
		{0, "0"},
		{api.One, "1"},
		{-api.One, "-1"},
		{10 * api.One, "10"},
		{-api.One / 4, "-0.25"},
		{11 * api.One / 2, "5.5"},
		{-205 * api.One / 2, "-102.5"},
		{api.One + api.One/16, "1.0625"},
		{1, "0.00000000023283064365386962890625"},
		{-1, "-0.00000000023283064365386962890625"},
		{api.MostNum, "2147483647.99999999976716935634613037109375"},
		{-api.MostNum, "-2147483647.99999999976716935634613037109375"},
		{noNumber, ""},
	} {
		if s := span.Text(c.n); s != c.want {
			t.Errorf("Text(%d) is %q, want %q", c.n, s, c.want)
		}
	}
}

// exactText returns a number with 32 digits behind the point, less the zeros that there need not be.
func exactText(n api.Num) string {
	return strings.TrimSuffix(strings.TrimRight(rat(n).FloatString(32), "0"), ".")
}

// TestTextIsExact: P1.2.
func TestTextIsExact(t *testing.T) {
	s := sample{1}
	l := numbers()
	for range 2000 {
		l = append(l, s.num())
	}
	for _, n := range l {
		if got, want := span.Text(n), exactText(n); got != want {
			t.Errorf("Text(%d) is %q, want %q", n, got, want)
		}
	}
}

// TestRead: P1.2.
func TestRead(t *testing.T) {
	for _, c := range []struct {
		s    string
		want api.Span
		e    api.Errno
	}{
		{"0", api.Span{}, api.OK},
		{"0.0", api.Span{}, api.OK},
		{"0.5", point(api.One / 2), api.OK},
		{"-0.5", point(-api.One / 2), api.OK},
		{"0.1", api.Span{Lo: 429496729, Hi: 429496730}, api.OK},
		{"-0.1", api.Span{Lo: -429496730, Hi: -429496729}, api.OK},
		{"-100", ints(-100, -100), api.OK},
		{"12.000", ints(12, 12), api.OK},
		{"0.00000000023283064365386962890625", point(1), api.OK},
		{"0.00000000023283064365386962890624", api.Span{Lo: 0, Hi: 1}, api.OK},
		{"0.00000000023283064365386962890626", api.Span{Lo: 1, Hi: 2}, api.OK},
		{"-0.00000000023283064365386962890624", api.Span{Lo: -1, Hi: 0}, api.OK},
		{"0.99999999999", api.Span{Lo: api.One - 1, Hi: api.One}, api.OK},
		{"-1.99999999999", api.Span{Lo: -2 * api.One, Hi: -2*api.One + 1}, api.OK},
		{"2147483647", ints(api.MaxWhole, api.MaxWhole), api.OK},
		{"-2147483647", ints(-api.MaxWhole, -api.MaxWhole), api.OK},
		{"2147483647.99999999976716935634613037109375", point(api.MostNum), api.OK},
		{"-2147483647.99999999976716935634613037109375", point(-api.MostNum), api.OK},
		{"2147483647.999999999767169356346130371093751", api.Span{}, api.ErrRange},
		{"-2147483647.999999999767169356346130371093751", api.Span{}, api.ErrRange},
		{"2147483647.99999999976716935634613037109374", api.Span{Lo: api.MostNum - 1, Hi: api.MostNum}, api.OK},
		{"2147483648", api.Span{}, api.ErrRange},
		{"-2147483648", api.Span{}, api.ErrRange},
		{"4294967296", api.Span{}, api.ErrRange},
		{"21474836470", api.Span{}, api.ErrRange},
		{"-21474836479.5", api.Span{}, api.ErrRange},
		{"18446744073709551616", api.Span{}, api.ErrRange},
		{"18446744073709551617.5", api.Span{}, api.ErrRange},
		{"-184467440737095516170", api.Span{}, api.ErrRange},
	} {
		a, e := span.Read(c.s)
		wantSpan(t, c.s, a, e, c.want, c.e)
	}
}

// TestReadWrongForms: P1.2.
func TestReadWrongForms(t *testing.T) {
	for _, s := range []string{
		"", "-", "--1", "+1", "-+1", "01", "00", "-01", "-0", "-0.0", "-0.00000", "1.", ".5", ".", "-.5", "-1.", "1.2.3", "1..2", "1.-2", "1-",
		" 1", "1 ", "1e3", "1,5", "0x1", "1_000", "/", ":", "0./", "0.:", "a", "\x00", "1\n", "0.1\n", "٣", "1.٣", "１", "Inf", "NaN",
	} {
		a, e := span.Read(s)
		wantSpan(t, s, a, e, api.Span{}, api.ErrForm)
	}
}

// TestReadLong: P1.2.
func TestReadLong(t *testing.T) {
	tail := strings.Repeat("0", 77) + "1"
	for _, c := range []struct {
		s    string
		want api.Span
		e    api.Errno
	}{
		{"0." + tail, api.Span{Lo: 0, Hi: 1}, api.OK},
		{"-0." + tail[1:], api.Span{Lo: -1, Hi: 0}, api.OK},
		{"0." + tail + "0", api.Span{}, api.ErrLong},
		{"-0." + tail, api.Span{}, api.ErrLong},
		{strings.Repeat("9", 80), api.Span{}, api.ErrRange},
		{strings.Repeat("9", 81), api.Span{}, api.ErrLong},
		{"1." + strings.Repeat("0", 78), ints(1, 1), api.OK},
		{"1." + strings.Repeat("0", 79), api.Span{}, api.ErrLong},
		{strings.Repeat("x", 80), api.Span{}, api.ErrForm},
		{strings.Repeat("x", 81), api.Span{}, api.ErrLong},
		{strings.Repeat("0", 80), api.Span{}, api.ErrForm},
		{strings.Repeat("0", 1000), api.Span{}, api.ErrLong},
	} {
		a, e := span.Read(c.s)
		wantSpan(t, c.s, a, e, c.want, c.e)
	}
}

// readExactly returns what Read has to return for a text of at most 80 bytes.
func readExactly(s string) (api.Span, api.Errno) {
	form := regexp.MustCompile(`^-?(0|[1-9][0-9]*)(\.[0-9]+)?$`)
	if !form.MatchString(s) || strings.HasPrefix(s, "-") && !strings.ContainsAny(s, "123456789") {
		return api.Span{}, api.ErrForm
	}
	x, _ := new(big.Rat).SetString(s)
	return roundOut(x)
}

// TestReadAllShort: P1.2, all texts of up to five of some bytes.
func TestReadAllShort(t *testing.T) {
	l := []string{""}
	for i := 0; i < len(l); i++ {
		a, e := span.Read(l[i])
		want, wantE := readExactly(l[i])
		wantSpan(t, l[i], a, e, want, wantE)
		for _, c := range []string{"-", ".", "0", "1", "9", "+"} {
			if len(l[i]) < 5 {
				l = append(l, l[i]+c)
			}
		}
	}
}

// TestReadMany: P1.2.
func TestReadMany(t *testing.T) {
	s := sample{2}
	for range 3000 {
		text := exactText(s.num())
		if !strings.Contains(text, ".") {
			text += "."
		}
		for range s.next() % 30 {
			text += string(rune('0' + s.next()%10))
		}
		text = text[:min(len(text), api.MaxWord)]
		a, e := span.Read(text)
		want, wantE := readExactly(text)
		wantSpan(t, text, a, e, want, wantE)
	}
}
