package vehicle_test

import (
	"slices"
	"strconv"
	"strings"
	"testing"

	"ullage/api"
	"ullage/vehicle"
)

// ship is the text of a vehicle that has all parts of the language; each blank is between two tokens.
const ship = `vehicle ship ;
let half-load = ( 10 t - kg * 500 ) / 2 ;
payload = half-load + kg ;
drag { 0 m / s : 1 m * m ; km / s : 2 m * m .. 3 m * m ; }
stage ship { dry = 3 t ; prop = half-load +- 1 kg ; }
stage low { dry = 1 t / 3 .. t ; prop = 0 t ; }
engine ship in low { count = 60 / 2 ; thrust = 1 MN +- kN ; flow = 1 t / s .. 2 t / s ; least = 1 / 3 ; start = 2 s ; stop = ms .. 1 min ; }
engine side in ship { count = 1 ; thrust = 1 kN ; flow = kg / s ; least = 0 ; start = 0 s ; stop = h ; }
limits { axial = 50 m / s / s ; bending = 35 kPa ; }
engine half-load in low { count = 64 ; thrust = Pa * km * km ; flow = kg / min ; least = 1.0 ; start = - - s ; stop = s * 2 ; }
`

// shipIs is what ship describes.
func shipIs() api.Vehicle {
	third := api.Num(1431655765)
	return api.Vehicle{
		Name: "ship",
		Stages: []api.Stage{
			{Name: "ship", Dry: ints(3, 3), Prop: api.Span{Lo: 20396799688, Hi: 20405389624}, Engines: []api.Engine{
				{Name: "side", Count: 1, Thrust: api.Span{Lo: 4294967, Hi: 4294968}, Flow: api.Span{Lo: 4294967, Hi: 4294968}, Stop: ints(3600, 3600)},
			}},
			{Name: "low", Dry: api.Span{Lo: third, Hi: api.One}, Engines: []api.Engine{
				{Name: "ship", Count: 30, Thrust: api.Span{Lo: 4290672328, Hi: 4299262264}, Flow: ints(1, 2), Least: third, Start: ints(2, 2), Stop: api.Span{Lo: 4294967, Hi: 60 * api.One}},
				{Name: "half-load", Count: 64, Thrust: ints(1, 1), Flow: api.Span{Lo: 71582, Hi: 71583}, Least: api.One, Start: ints(1, 1), Stop: ints(2, 2)},
			}},
		},
		Payload: api.Span{Lo: 20405389623, Hi: 20405389624},
		Drag:    []api.Point{{At: 0, Value: api.Span{Lo: 4294, Hi: 4295}}, {At: api.One, Value: api.Span{Lo: 8589, Hi: 12885}}},
		Axial:   214748364,
		Bending: 35000 * api.One,
	}
}

// wantParse checks that a text is that of a vehicle.
func wantParse(t *testing.T, s string, want api.Vehicle) {
	t.Helper()
	v, at, e := vehicle.Parse(s)
	if !same(v, want) || at != 0 || e != api.OK {
		t.Errorf("Parse(%.200q): %v, error %d at %d; want %v", s, v, e, at, want)
	}
}

// wantParseFault checks the place and the error of a text that is no vehicle.
func wantParseFault(t *testing.T, s string, at int, e api.Errno) {
	t.Helper()
	v, gotAt, gotE := vehicle.Parse(s)
	if !same(v, api.Vehicle{}) || gotAt != at || gotE != e {
		t.Errorf("Parse(%.200q): %v, error %d at %d; want error %d at %d", s, v, gotE, gotAt, e, at)
	}
}

// TestParse: P2.6, a whole vehicle.
func TestParse(t *testing.T) {
	wantParse(t, ship, shipIs())
	wantParse(t, strings.ReplaceAll(ship, " ", "\n  "), shipIs())
	wantParse(t, ship+strings.Repeat(" ", api.MaxText-len(ship)), shipIs())
	wantParseFault(t, ship+strings.Repeat(" ", api.MaxText-len(ship)+1), 0, api.ErrLong)
	wantParseFault(t, strings.Repeat("#", api.MaxText+1), 0, api.ErrLong)
}

// places returns where the tokens of ship begin, and how long they are.
func places() (l [][2]int) {
	at := 0
	for _, x := range strings.FieldsFunc(ship, func(r rune) bool { return r == ' ' || r == '\n' }) {
		at += strings.Index(ship[at:], x)
		l = append(l, [2]int{at, len(x)})
		at += len(x)
	}
	return l
}

// TestParseOtherTokens: P2.6, each token replaced by one that is none, and by one that cannot stand there.
func TestParseOtherTokens(t *testing.T) {
	for _, p := range places() {
		at, behind := p[0], ship[p[0]+p[1]:]
		wantParseFault(t, ship[:at]+"#"+behind, at, api.ErrForm)
		wantParseFault(t, ship[:at]+strings.Repeat("x", 33)+behind, at, api.ErrForm)
		wantParseFault(t, ship[:at]+"1234567890123456789"+behind, at, api.ErrRange)
		wantParseFault(t, ship[:at]+"vehicle #"+behind, vehicleFault(at), api.ErrForm)
		wantParseFault(t, ship[:at]+"= #"+behind, equalFault(at), api.ErrForm)
	}
}

// vehicleFault is where the word vehicle, and a byte that is no token, are a fault, if they stand at a place of ship.
func vehicleFault(at int) int {
	if at == 0 {
		return len("vehicle ")
	}
	return at
}

// equalFault is the same for the sign =.
func equalFault(at int) int {
	if ship[at] == '=' {
		return at + len("= ")
	}
	return at
}

// TestParseEnds: P2.6, texts that end too early.
func TestParseEnds(t *testing.T) {
	for _, p := range places() {
		s := ship[:p[0]]
		e := api.ErrForm
		word := ship[p[0] : p[0]+p[1]]
		if slices.Contains([]string{"let", "payload", "drag", "stage", "engine", "limits"}, word) {
			e = api.ErrState
		}
		if strings.HasPrefix(ship[p[0]:], "engine half-load") {
			continue // the text ahead of it is that of a vehicle
		}
		wantParseFault(t, s, len(s), e)
		s = strings.TrimRight(s, " \n")
		wantParseFault(t, s, len(s), e)
	}
}

// parts of a text that is complete but for what a test adds.
const (
	begin  = "vehicle v; "
	stage  = "stage a { dry = 1 t; prop = 1 t; } "
	second = "stage b { dry = 1 t; prop = 1 t; } "
	rest   = "drag { 0 m/s : 1 m*m; } limits { axial = 1 m/s/s; bending = 1 Pa; } payload = 1 t; "
	inner  = "{ count = 1; thrust = 1 N; flow = 1 kg/s; least = 0; start = 1 s; stop = 1 s; } "
)

// behind checks the fault that some text has behind another one, at a place of it.
func behind(t *testing.T, head, s string, at int, e api.Errno) {
	t.Helper()
	wantParseFault(t, head+s, len(head)+at, e)
}

// TestParseNames: P2.6, names that are there, and names that are not.
func TestParseNames(t *testing.T) {
	wantParse(t, begin+stage+rest+"let v = 1; let a = v; engine a in a "+inner, func() api.Vehicle {
		v, _, _ := vehicle.Parse(begin + stage + rest + "engine a in a " + inner)
		return v
	}())
	for _, x := range []struct {
		head, s string
		at      int
		e       api.Errno
	}{
		{begin, "let x = 1; let x = 2;", 15, api.ErrThere},
		{begin, "let x = 1; let x #", 15, api.ErrThere},
		{begin, "let x = 1; let y = x; let x = 2;", 26, api.ErrThere},
		{begin, "let x = x;", 8, api.ErrNone},
		{begin, "let x = y; let y = 1;", 8, api.ErrNone},
		{begin, "let x = y #", 8, api.ErrNone},
		{begin, "let x = 1 t + 1 s;", 12, api.ErrUnit},
		{begin, "let x = 1 / 0 #", 14, api.ErrForm},
		{begin, "let x = 100000000000000000 h;", 27, api.ErrRange},
		{begin, "let x = km * s; let y = x / x + x;", 30, api.ErrUnit},
		{begin, "let x = 1; let y = 2 x;", 21, api.ErrForm},
		{begin, "let x = 1; let y = x km;", 21, api.ErrForm},
		{begin, "let x = v;", 8, api.ErrNone},
		{begin, "let x = 1; let y = X;", 19, api.ErrNone},
		{begin + stage, "let x = a;", 8, api.ErrNone},
		{begin + stage + "engine e in a " + inner, "let x = e;", 8, api.ErrNone},
		{begin + stage, "stage b { dry = x; ", 16, api.ErrNone},
		{begin + stage, stage, 6, api.ErrThere},
		{begin + stage, "stage a #", 6, api.ErrThere},
		{begin + stage + "engine e in a " + inner, "engine e in a", 7, api.ErrThere},
		{begin + stage + "engine e in a " + inner, "engine e in b", 7, api.ErrThere},
		{begin + stage + "engine e in a " + inner + second, "engine e in b", 7, api.ErrThere},
		{begin, "engine e in a", 12, api.ErrNone},
		{begin, "engine e in a #", 12, api.ErrNone},
		{begin, "engine e in v", 12, api.ErrNone},
		{begin + stage, "engine e in b " + inner + second, 12, api.ErrNone},
		{begin + "let x = 1; ", "engine e in x", 12, api.ErrNone},
		{begin + stage, "engine e in A", 12, api.ErrNone},
	} {
		behind(t, x.head, x.s, x.at, x.e)
	}
	for _, w := range append(reservedWords(), "1", ";", "-a", "#") {
		behind(t, "vehicle ", w+";", 0, api.ErrForm)
		behind(t, begin+"let ", w+" = 1;", 0, api.ErrForm)
		behind(t, begin+"stage ", w+" { dry = 1 t; prop = 1 t; }", 0, api.ErrForm)
		behind(t, begin+stage+"engine ", w+" in a", 0, api.ErrForm)
		behind(t, begin+stage+"engine e in ", w+" {", 0, api.ErrForm)
	}
	behind(t, begin, "", 0, api.ErrState)
	behind(t, begin, "a", 0, api.ErrForm)
	behind(t, begin, "; ", 0, api.ErrForm)
	behind(t, begin, "dry = 1 t;", 0, api.ErrForm)
	behind(t, begin, "vehicle w;", 0, api.ErrForm)
}

// TestParseOnce: P2.6, drag, limits and payload are there once.
func TestParseOnce(t *testing.T) {
	drag, limits, payload := "drag { 0 m/s : 1 m*m; } ", "limits { axial = 1 m/s/s; bending = 1 Pa; } ", "payload = 1 t; "
	for _, s := range []string{drag, "drag { } ", limits, payload} {
		word, _, _ := strings.Cut(s, " ")
		behind(t, begin+s, s, 0, api.ErrThere)
		behind(t, begin+s+stage, word, 0, api.ErrThere)
		behind(t, begin+s+stage, word+" #", 0, api.ErrThere)
	}
	for _, s := range []string{"", drag, limits, payload, drag + limits, drag + payload, limits + payload} {
		head := begin + stage + s
		wantParseFault(t, head, len(head), api.ErrState)
		head = begin + s
		wantParseFault(t, head, len(head), api.ErrState)
	}
	for _, s := range []string{drag + limits + payload, payload + limits + drag, limits + payload + drag} {
		if _, _, e := vehicle.Parse(begin + s + stage); e != api.OK {
			t.Errorf("%q: error %d", begin+s+stage, e)
		}
	}
}

// bounded are the beginnings of texts behind which bounds are read, and their dimension.
func bounded() map[string]string {
	engine := begin + stage + "engine e in a { count = 1; "
	return map[string]string{
		begin + "payload = ":                                                 "t",
		begin + "stage b { dry = ":                                           "t",
		begin + "stage b { dry = 1 t; prop = ":                               "t",
		begin + "drag { 0 m/s : ":                                            "km*km",
		begin + "drag { 0 m/s : 1 m*m; 2 m/s : ":                             "km*km",
		engine + "thrust = ":                                                 "t*km/s/s",
		engine + "thrust = 1 N; flow = ":                                     "t/s",
		engine + "thrust = 1 N; flow = 1 t/s; least = 0; start = ":           "s",
		engine + "thrust = 1 N; flow = 1 t/s; least = 0; start = s; stop = ": "s",
	}
}

// singles are the beginnings of texts behind which one quantity is read, its dimension, and the sign behind it.
func singles() map[string][2]string {
	engine := begin + stage + "engine e in a { "
	return map[string][2]string{
		engine + "count = ": {"1", ";"},
		engine + "count = 1; thrust = N; flow = t/s; least = ": {"1", ";"},
		begin + "drag { ":                              {"km/s", ":"},
		begin + "drag { 0 m/s : 1 m*m; ":               {"km/s", ":"},
		begin + "limits { axial = ":                    {"km/s/s", ";"},
		begin + "limits { axial = 1 m/s/s; bending = ": {"t/km/s/s", ";"},
	}
}

// otherDimensions are quantities whose dimensions differ from that of a unit.
func otherDimensions(unit string) []string {
	var out []string
	for _, x := range []string{"km", "1/km", "s", "1/s", "t", "1/t"} {
		out = append(out, "("+unit+")*("+x+")")
	}
	return out
}

// TestParseBounds: P2.6, the faults of bounds.
func TestParseBounds(t *testing.T) {
	for head, u := range bounded() {
		unit := " * (" + u + ")"
		for _, other := range otherDimensions(u) {
			behind(t, head, other+";", 0, api.ErrUnit)
			behind(t, head, " "+other+"; #", 1, api.ErrUnit)
			for _, sign := range []string{"+-", ".."} {
				behind(t, head, "1"+unit+" "+sign+" "+other+"; ", 0, api.ErrUnit)
				behind(t, head, other+" "+sign+" 1"+unit+"; ", 0, api.ErrUnit)
				behind(t, head, other+" "+sign+" "+other+"; ", 0, api.ErrUnit)
				behind(t, head, "2"+unit+" "+sign+" 1/"+other+"; ", 0, api.ErrUnit)
			}
			behind(t, head, other+" x", len(other)+1, api.ErrForm)
			behind(t, head, other, len(other), api.ErrForm)
			behind(t, head, other+" #", len(other)+1, api.ErrForm)
			behind(t, head, other+" .. 1 #", len(other)+6, api.ErrForm)
			behind(t, head, other+" .. ;", len(other)+4, api.ErrForm)
		}
		for _, s := range []string{"2147483648*", "-2147483648*", "1000000000000*"} {
			behind(t, head, s+"1"+unit+";", 0, api.ErrRange)
			behind(t, head, "0"+unit+" .. "+s+"1"+unit+"; #", 0, api.ErrRange)
			behind(t, head, s+"1"+unit+" .. 1"+unit+";", 0, api.ErrRange)
			behind(t, head, "0"+unit+" +- "+s+"1"+unit+";", 0, api.ErrRange)
		}
		behind(t, head, "2147483647"+unit+" +- 1"+unit+";", 0, api.ErrRange)
		for _, s := range []string{"4000000000*1000000000", "-4000000000*1000000000"} {
			behind(t, head, " "+s+unit+" +- 4000000000*1000000000"+unit+"; #", 1, api.ErrRange)
		}
		behind(t, head, "1/4000000007"+unit+" +- 1/4000000009"+unit+";", 0, api.ErrRange)
		behind(t, head, "3000000000000000000*1"+unit, 0, api.ErrRange)
		behind(t, head, "2"+unit+" .. 1"+unit+";", 0, api.ErrOrder)
		behind(t, head, " 2"+unit+" .. 1"+unit+"; #", 1, api.ErrOrder)
		behind(t, head, "2"+unit+" +- -1"+unit+";", 0, api.ErrOrder)
		behind(t, head, "1"+unit+" +- 1"+unit+" +- 1"+unit+";", len("1"+unit+" +- 1"+unit+" "), api.ErrForm)
		behind(t, head, "1"+unit+" .. 1"+unit+" +- 1"+unit+";", len("1"+unit+" .. 1"+unit+" "), api.ErrForm)
		behind(t, head, "1/0; ", 1, api.ErrArg)
		behind(t, head, "1"+unit+" .. 1/0; ", len("1"+unit+" .. 1"), api.ErrArg)
		behind(t, head, "1 + 1 s;", 2, api.ErrUnit)
		// What is well is no fault: the next token is.
		for _, s := range []string{"2" + unit + " .. 2" + unit, "2" + unit + " +- 0" + unit, "-1" + unit, "1" + unit + " +- 3" + unit, "2147483647" + unit} {
			behind(t, head, s+"; #", len(s)+2, api.ErrForm)
		}
	}
}

// TestParseRounding: P2.6, the lower and the upper number.
func TestParseRounding(t *testing.T) {
	const third, twoThirds = 1431655765, 2863311530
	for _, x := range []struct {
		s    string
		want api.Span
	}{
		{"t/3", api.Span{Lo: third, Hi: third + 1}},
		{"t/3 .. 2 t/3", api.Span{Lo: third, Hi: twoThirds + 1}},
		{"t/2 +- t/6", api.Span{Lo: third, Hi: twoThirds + 1}},
		{"2 t +- 1 t", ints(1, 3)},
		{"5 t", ints(5, 5)},
		// The numbers are in order, though the quantities are not.
		{"t/3 .. t/3 - t/1000000000000000", api.Span{Lo: third, Hi: third + 1}},
	} {
		v, _, e := vehicle.Parse(begin + stage + strings.Replace(rest, "payload = 1 t", "payload = "+x.s, 1))
		wantSpan(t, x.s, v.Payload, e, x.want, api.OK)
	}
	v, _, e := vehicle.Parse(begin + stage + "drag { km/s/3 : 1 m*m; } limits { axial = km/s/s/3; bending = 2 Pa/3; } payload = 1 t;" + strings.Replace("engine e in a "+inner, "least = 0", "least = 2/3", 1))
	if e != api.OK || v.Drag[0].At != third || v.Axial != third || v.Bending != twoThirds || v.Stages[0].Engines[0].Least != twoThirds {
		t.Errorf("%v, error %d", v, e)
	}
}

// TestParseSingles: P2.6, the faults of counts, of least, places, and limits.
func TestParseSingles(t *testing.T) {
	for head, x := range singles() {
		unit, sign := " * ("+x[0]+")", x[1]
		for _, other := range otherDimensions(x[0]) {
			behind(t, head, other+sign, 0, api.ErrUnit)
			behind(t, head, "  "+other+sign+" #", 2, api.ErrUnit)
			behind(t, head, "0*"+other+sign+" #", 0, api.ErrUnit)
			behind(t, head, other, len(other), api.ErrForm)
			behind(t, head, other+" #", len(other)+1, api.ErrForm)
			behind(t, head, other+" ..", len(other)+1, api.ErrForm)
			behind(t, head, other+" +-", len(other)+1, api.ErrForm)
			behind(t, head, other+" "+otherSign(sign), len(other)+1, api.ErrForm)
		}
		behind(t, head, "2147483648"+unit+sign, 0, api.ErrRange)
		behind(t, head, " -2147483648"+unit+sign+" #", 1, api.ErrRange)
		behind(t, head, "2147483648"+unit+" #", len("2147483648"+unit)+1, api.ErrForm)
		behind(t, head, "1"+unit+sign+" #", len("1"+unit+sign)+1, api.ErrForm)
	}
	count := begin + stage + "engine e in a { count = "
	for _, s := range []string{"0", "-1", "65", "1.5", "1/2", "129/2", "100000", "64.000001"} {
		behind(t, count, s+"; #", 0, api.ErrRange)
	}
	for _, s := range []string{"1", "64", "64.0", "3/3", "2 km / km", "s/s"} {
		behind(t, count, s+"; #", len(s)+2, api.ErrForm)
	}
}

// otherSign is a sign that does not stand behind a quantity that has this one behind it.
func otherSign(sign string) string {
	if sign == ";" {
		return ":"
	}
	return ";"
}

// TestParseAtTheEnd: P2.6, what Check finds.
func TestParseAtTheEnd(t *testing.T) {
	var many strings.Builder
	for i := range api.MaxStages + 1 {
		many.WriteString("stage " + name("s", i) + " { dry = 1 t; prop = 1 t; } ")
	}
	var kinds strings.Builder
	for i := range api.MaxEngines + 1 {
		kinds.WriteString("engine " + name("e", i) + " in a " + inner)
	}
	var points strings.Builder
	for i := range api.MaxTable + 1 {
		points.WriteString(strconv.Itoa(i) + " m/s : 1 m*m; ")
	}
	replaced := func(from, to string) string {
		s := begin + stage + rest + "engine e in a " + inner
		if !strings.Contains(s, from) {
			t.Errorf("%q is not there", from)
		}
		return strings.Replace(s, from, to, 1)
	}
	for _, x := range []struct {
		s string
		e api.Errno
	}{
		{begin + rest, api.ErrArg},
		{begin + rest + "\n  ", api.ErrArg},
		{begin + many.String() + rest, api.ErrLong},
		{begin + stage + kinds.String() + rest, api.ErrLong},
		{replaced("dry = 1 t", "dry = 0 t"), api.ErrRange},
		{replaced("dry = 1 t", "dry = 0 t .. 1 t"), api.ErrRange},
		{replaced("prop = 1 t", "prop = 1 t +- 2 t"), api.ErrRange},
		{replaced("prop = 1 t", "prop = 1048577 t"), api.ErrRange},
		{replaced("thrust = 1 N", "thrust = 0 N"), api.ErrRange},
		{replaced("flow = 1 kg/s", "flow = 0 kg/s"), api.ErrRange},
		{replaced("least = 0", "least = 1.001"), api.ErrRange},
		{replaced("least = 0", "least = -0.001"), api.ErrRange},
		{replaced("stop = 1 s", "stop = -1 s"), api.ErrRange},
		{replaced("payload = 1 t", "payload = -1 t"), api.ErrRange},
		{replaced("0 m/s : 1 m*m;", ""), api.ErrArg},
		{replaced("0 m/s : 1 m*m;", "1 m/s : 1 m*m; 1 m/s : 1 m*m;"), api.ErrArg},
		{replaced("0 m/s : 1 m*m;", "2 m/s : 1 m*m; 1 m/s : 1 m*m;"), api.ErrArg},
		{replaced("0 m/s :", "-1 m/s :"), api.ErrArg},
		{replaced("0 m/s : 1 m*m;", points.String()), api.ErrArg},
		{replaced("1 m*m", "-1 m*m"), api.ErrArg},
		{replaced("axial = 1 m/s/s", "axial = 0 m/s/s"), api.ErrRange},
		{replaced("bending = 1 Pa", "bending = -1 Pa"), api.ErrRange},
		{replaced("bending = 1 Pa", "bending = 2000000 Pa"), api.ErrRange},
		{begin + "stage a { dry = 0 t; prop = 1 t; } ", api.ErrState},
		{begin + many.String(), api.ErrState},
	} {
		wantParseFault(t, x.s, len(x.s), x.e)
	}
}

// TestParseEngines: P2.6, engines are in the stages that they name, in the order of the text.
func TestParseEngines(t *testing.T) {
	s := begin + stage + "engine z in a " + inner + second +
		"engine y in b " + inner + "engine x in a " + inner + "engine w in b " + inner + rest
	v, _, e := vehicle.Parse(s)
	var got []string
	for _, x := range v.Stages {
		for _, y := range x.Engines {
			got = append(got, x.Name+y.Name)
		}
	}
	if e != api.OK || !slices.Equal(got, []string{"az", "ax", "by", "bw"}) {
		t.Errorf("%v, error %d", got, e)
	}
}
