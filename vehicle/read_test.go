package vehicle_test

import (
	"strings"
	"testing"

	"ullage/api"
	"ullage/vehicle"
)

// TestReadQuantities: P2.4.
func TestReadQuantities(t *testing.T) {
	long := "0." + strings.Repeat("0", 16) + "7"
	for _, x := range []struct {
		s    string
		want api.Quantity
	}{
		{"1.5 km / ms", quantity(1500, 1, 1, -1, 0)},
		{"2 t + 500 kg", quantity(5, 2, 0, 0, 1)},
		{"2t+500kg", quantity(5, 2, 0, 0, 1)},
		{"\n 2 \n\n t\n", quantity(2, 1, 0, 0, 1)},
		{"0", plain(0, 1)}, {"000", plain(0, 1)}, {"0.00", plain(0, 1)}, {"007", plain(7, 1)}, {"0.50", plain(1, 2)}, {"12.0", plain(12, 1)},
		{"999999999999999999", plain(999999999999999999, 1)},
		{"000000000000000001", plain(1, 1)},
		{long, plain(7, 100000000000000000)},
		{"1.23456789012345678", plain(61728394506172839, 50000000000000000)},
		{"km", quantity(1, 1, 1, 0, 0)},
		{"-kPa", quantity(-1000, 1, -1, -2, 1)},
		{"8 / 4 / 2", plain(1, 1)}, {"8 / 4 * 2", plain(4, 1)}, {"1 - 2 - 3", plain(-4, 1)}, {"1 - 2 + 3", plain(2, 1)},
		{"1 + 2 * 3", plain(7, 1)}, {"2 * 3 + 1", plain(7, 1)}, {"(1 + 2) * 3", plain(9, 1)}, {"7 - 6 / 2", plain(4, 1)},
		{"8 / 2 km", quantity(4, 1, -1, 0, 0)},
		{"8 / 2 * km", quantity(4, 1, 1, 0, 0)},
		{"6 m / 2 s * 2 s", quantity(3, 500, 1, 0, 0)},
		{"m/s/s", quantity(1, 1000, 1, -2, 0)},
		{"-3", plain(-3, 1)}, {"--3", plain(3, 1)}, {"- - - 3", plain(-3, 1)}, {"-(-3)", plain(3, 1)}, {"-0", plain(0, 1)},
		{"2 - -3", plain(5, 1)}, {"2 + -3", plain(-1, 1)}, {"2 * -3", plain(-6, 1)}, {"2 / -4 s", quantity(-1, 2, 0, -1, 0)}, {"-2 km * 3", quantity(-6, 1, 1, 0, 0)},
		{"2 -3", plain(-1, 1)}, {"2-3", plain(-1, 1)},
		{"-(3 kN)/4", quantity(-3, 4000, 1, -2, 1)},
		{"2 t- 1 t", quantity(1, 1, 0, 0, 1)}, {"2 t-(1 t)", quantity(1, 1, 0, 0, 1)},
		{"((1))", plain(1, 1)}, {"(2) * (3 s)", quantity(6, 1, 0, 1, 0)},
		{"2 h - 30 min", quantity(5400, 1, 0, 1, 0)},
		{"1 / 3 + 1 / 6", plain(1, 2)},
		{"km*km*km*km*km*km*km*km*km", quantity(1, 1, 9, 0, 0)},
		{strings.Repeat(" ", api.MaxText-1) + "1", plain(1, 1)},
		{strings.Repeat("(", 9999) + "1" + strings.Repeat(")", 9999), plain(1, 1)},
		{strings.Repeat("-", api.MaxText-1) + "1", plain(-1, 1)},
		{strings.Repeat("1+", api.MaxText/2-1) + "1", plain(api.MaxText/2, 1)},
	} {
		if q, at, e := vehicle.Read(x.s); q != x.want || at != 0 || e != api.OK {
			t.Errorf("Read(%.80q): %v, error %d at %d; want %v", x.s, q, e, at, x.want)
		}
	}
	for _, u := range allUnits() {
		for _, s := range []string{u.Name, "1 " + u.Name, "1" + u.Name, "(" + u.Name + ")"} {
			if q, at, e := vehicle.Read(s); q != u.Is || at != 0 || e != api.OK {
				t.Errorf("Read(%q): %v, error %d at %d", s, q, e, at)
			}
		}
	}
}

// TestReadLong: P2.4.
func TestReadLong(t *testing.T) {
	wantFault(t, strings.Repeat(" ", api.MaxText)+"1", 0, api.ErrLong)
	wantFault(t, "#"+strings.Repeat("1", api.MaxText), 0, api.ErrLong)
	wantFault(t, strings.Repeat(" ", api.MaxText), api.MaxText, api.ErrForm)
	wantFault(t, strings.Repeat("(", api.MaxText), api.MaxText, api.ErrForm)
	wantFault(t, strings.Repeat("-", api.MaxText), api.MaxText, api.ErrForm)
}

// TestReadTokens: P2.4, what is a token, and what is none.
func TestReadTokens(t *testing.T) {
	word := strings.Repeat("Ab-9", 8)
	for _, x := range []struct {
		s  string
		at int
		e  api.Errno
	}{
		{"1 # 2", 2, api.ErrForm}, {"#", 0, api.ErrForm}, {"1\t", 1, api.ErrForm}, {"\r1", 0, api.ErrForm}, {"1 \x00", 2, api.ErrForm},
		{"1 + ä", 4, api.ErrForm}, {"_a", 0, api.ErrForm}, {"1,5", 1, api.ErrForm}, {"2^3", 1, api.ErrForm}, {"1\v+ 1", 1, api.ErrForm}, {"[1]", 0, api.ErrForm},
		{".5", 0, api.ErrForm}, {"1.", 1, api.ErrForm}, {"1. 5", 1, api.ErrForm}, {"1.km", 1, api.ErrForm}, {"1.5.2", 3, api.ErrForm}, {"1 . 2", 2, api.ErrForm},
		{"1234567890123456789", 0, api.ErrRange}, {"0000000000000000001", 0, api.ErrRange}, {"1.234567890123456789", 0, api.ErrRange}, {" 0.000000000000000000", 1, api.ErrRange},
		{strings.Repeat("1", 33), 0, api.ErrRange}, {"1 " + strings.Repeat("0", 5000) + "#", 2, api.ErrRange}, {"0." + strings.Repeat("3", 40), 0, api.ErrRange},
		{word, 0, api.ErrNone}, {word + "x", 0, api.ErrForm}, {"1 " + word, 2, api.ErrForm}, {"1 + " + word + "x", 4, api.ErrForm},
		{word + "- 1", 0, api.ErrNone}, {word + "---", 0, api.ErrNone},
		{"km-2", 0, api.ErrNone}, {"2 t-1", 2, api.ErrForm}, {"t--1", 0, api.ErrNone}, {"t-s", 0, api.ErrNone}, {"t-", 2, api.ErrForm}, {"km2", 0, api.ErrNone},
		{"2 t--1 t", 2, api.ErrForm},
		{"2+-3", 1, api.ErrForm}, {"2 +- 3", 2, api.ErrForm}, {"2..3", 1, api.ErrForm}, {"2 .. 3", 2, api.ErrForm}, {"+-3", 0, api.ErrForm},
		{"KM", 0, api.ErrNone}, {"pa", 0, api.ErrNone}, {"kn", 0, api.ErrNone}, {"mn", 0, api.ErrNone}, {"T", 0, api.ErrNone}, {"e", 0, api.ErrNone}, {"1e3", 1, api.ErrForm},
	} {
		wantFault(t, x.s, x.at, x.e)
	}
	for _, s := range reservedWords() {
		if _, _, e := vehicle.Read("1 " + s); e == api.OK {
			continue // a unit
		}
		wantFault(t, s, 0, api.ErrForm)
		wantFault(t, "2 * "+s, 4, api.ErrForm)
		wantFault(t, s+"x", 0, api.ErrNone)
	}
	for c := range 256 {
		if !strings.ContainsRune("abcdefghijklmnopqrstuvwxyzABCDEFGHIJKLMNOPQRSTUVWXYZ0123456789{};:=+-*/(). \n", rune(c)) {
			wantFault(t, string([]byte{'1', byte(c)}), 1, api.ErrForm)
			wantFault(t, string([]byte{byte(c), '1'}), 0, api.ErrForm)
			wantFault(t, string([]byte{'1', '/', '0', byte(c), '1'}), 3, api.ErrForm)
		}
	}
}

// reservedWords are all words that are no names.
func reservedWords() []string {
	l := strings.Fields("vehicle let stage engine in drag limits payload dry prop count thrust flow least start stop axial bending")
	for _, u := range allUnits() {
		l = append(l, u.Name)
	}
	return l
}

// TestReadForm: P2.4, what cannot stand where it is.
func TestReadForm(t *testing.T) {
	for _, x := range []struct {
		s  string
		at int
		e  api.Errno
	}{
		{"", 0, api.ErrForm}, {" \n ", 3, api.ErrForm}, {"3 +", 3, api.ErrForm}, {"3 + ", 4, api.ErrForm}, {"(3", 2, api.ErrForm}, {"(3 ", 3, api.ErrForm},
		{"-", 1, api.ErrForm}, {"(", 1, api.ErrForm}, {"()", 1, api.ErrForm}, {")", 0, api.ErrForm}, {"3)", 1, api.ErrForm}, {"(3))", 3, api.ErrForm}, {"2 *", 3, api.ErrForm},
		{"+3", 0, api.ErrForm}, {"*3", 0, api.ErrForm}, {"2 + * 3", 4, api.ErrForm}, {"2 / / 3", 4, api.ErrForm}, {"2 * + 3", 4, api.ErrForm},
		{"1 km 2", 5, api.ErrForm}, {"1 2", 2, api.ErrForm}, {"3 km s", 5, api.ErrForm}, {"km s", 3, api.ErrForm}, {"km 3", 3, api.ErrForm}, {"(3) km", 4, api.ErrForm}, {"3 (4)", 2, api.ErrForm}, {"(3)(4)", 3, api.ErrForm}, {"s(3)", 1, api.ErrForm},
		{"3 x", 2, api.ErrForm}, {"x + 3", 0, api.ErrNone}, {"x 3", 0, api.ErrNone}, {"2 * x", 4, api.ErrNone}, {"(x", 1, api.ErrNone}, {"-x", 1, api.ErrNone}, {"3 km x", 5, api.ErrForm}, {"(3) x", 4, api.ErrForm},
		{"3;", 1, api.ErrForm}, {"3 = 3", 2, api.ErrForm}, {"{3}", 0, api.ErrForm}, {"3 : 4", 2, api.ErrForm}, {"3 }", 2, api.ErrForm}, {";", 0, api.ErrForm},
		{"x #", 0, api.ErrNone}, {"3 x #", 2, api.ErrForm}, {"engine #", 0, api.ErrForm}, {") #", 0, api.ErrForm}, {"3 + ) #", 4, api.ErrForm}, {"1 2 #", 2, api.ErrForm},
	} {
		wantFault(t, x.s, x.at, x.e)
	}
}

// TestReadOperators: P2.4, which fault comes first, if an operator cannot be applied.
func TestReadOperators(t *testing.T) {
	for _, x := range []struct {
		s  string
		at int
		e  api.Errno
	}{
		{"2 t + 3 s", 4, api.ErrUnit}, {"2 t - 3", 4, api.ErrUnit}, {"2 - 3 t", 2, api.ErrUnit},
		{"1 / 0", 2, api.ErrArg}, {"1 / 0 s", 2, api.ErrArg}, {"1 / (2 - 2)", 2, api.ErrArg}, {"0/0", 1, api.ErrArg},
		{"1 / 0 #", 6, api.ErrForm}, {"1 / 0 1234567890123456789", 6, api.ErrRange}, {"1 / 0 .", 6, api.ErrForm},
		{"1 / 0 x", 2, api.ErrArg}, {"1 / 0 2", 2, api.ErrArg}, {"1 / 0 engine", 2, api.ErrArg}, {"1 / 0)", 2, api.ErrArg}, {"1 / 0;", 2, api.ErrArg}, {"1 / 0 + #", 2, api.ErrArg}, {"1 / 0 * x", 2, api.ErrArg},
		{"1 / (0) #", 8, api.ErrForm}, {"1 / (0) 2", 2, api.ErrArg}, {"(1 / 0", 3, api.ErrArg}, {"(1 / 0 #", 7, api.ErrForm}, {"(1 / 0)", 3, api.ErrArg}, {"1 / (0", 6, api.ErrForm}, {"1 / (0 #", 7, api.ErrForm},
		{"1 / 0 s #", 8, api.ErrForm}, {"1 / 0 s s", 2, api.ErrArg},
		{"2 t + 3 s x", 4, api.ErrUnit}, {"2 t + 3 s + #", 4, api.ErrUnit}, {"2 t + 3 s - x", 4, api.ErrUnit}, {"2 t + 3 s * #", 12, api.ErrForm}, {"2 t + 3 s * x", 12, api.ErrNone}, {"2 t + 3 s / 0", 10, api.ErrArg}, {"2 t + 3 s * 4", 4, api.ErrUnit},
		{"2 t + x", 6, api.ErrNone}, {"1 / 0 + 2 t", 2, api.ErrArg}, {"1 + 1 / 0", 6, api.ErrArg}, {"1 t + 1 / 0", 8, api.ErrArg}, {"(1 t + 1) / 0", 5, api.ErrUnit}, {"-(1 t + 1)", 6, api.ErrUnit},
		{"100000000000000000 h", 19, api.ErrRange}, {"100000000000000000 h #", 21, api.ErrForm}, {"100000000000000000 h x", 19, api.ErrRange}, {"100000000000000000 h 2", 19, api.ErrRange},
		{"0.00000000000000001 N", 20, api.ErrRange}, {"1 / 100000000000000000 h", 23, api.ErrRange}, {"1 / 0 * 100000000000000000 h", 2, api.ErrArg},
		{"km*km*km*km*km*km*km*km*km*km", 26, api.ErrRange}, {"1/s/s/s/s/s/s/s/s/s/s", 19, api.ErrRange},
		{"3000000000 * 3000000000", 11, api.ErrRange}, {"1/3000000000/3000000000", 12, api.ErrRange},
		{"999999999999999999*4 + 999999999999999999", 21, api.ErrRange}, {"1/4000000007 + 1/4000000009", 13, api.ErrRange},
	} {
		wantFault(t, x.s, x.at, x.e)
	}
}

// TestReadWhatShowWrites: P2.4 and P2.5, of numbers and of single units.
func TestReadWhatShowWrites(t *testing.T) {
	for _, s := range []string{"0", "-3/4 km", "5/2 t", "7 s", "-12", "1/1000000"} {
		q, _, e := vehicle.Read(s)
		if strings.Contains(s, "/") && strings.Contains(s, " ") {
			q, _, e = vehicle.Read("(" + strings.Replace(s, " ", ") * ", 1))
		}
		if got := vehicle.Show(q); got != s || e != api.OK {
			t.Errorf("%q is read and shown as %q, error %d", s, got, e)
		}
	}
}

// TestAnyText: P0.1, of Read and Parse: texts of tokens in any order.
func TestAnyText(t *testing.T) {
	l := append(reservedWords(), "{", "}", ";", ":", "=", "+-", "..", "+", "-", "*", "/", "(", ")", "1", "0", "2.5", "x", "y-1", "#", "999999999999999999", "1234567890123456789", "\n", "é")
	s := sample{21}
	for range 20000 {
		var b strings.Builder
		if s.below(2) == 0 {
			b.WriteString("vehicle x;")
		}
		for range s.below(12) {
			b.WriteString(l[s.below(len(l))])
			if s.below(3) > 0 {
				b.WriteByte(' ')
			}
		}
		text := b.String()
		q, at, e := vehicle.Read(text)
		if e == api.OK && (at != 0 || !vehicle.CheckQuantity(q)) || e != api.OK && (at < 0 || at > len(text) || q != api.Quantity{}) {
			t.Errorf("Read(%q): %v, error %d at %d", text, q, e, at)
		}
		v, at, e := vehicle.Parse(text)
		if e == api.OK || at < 0 || at > len(text) || !same(v, api.Vehicle{}) {
			t.Errorf("Parse(%q): %v, error %d at %d", text, v, e, at)
		}
	}
}
