package vehicle_test

import (
	"testing"

	"ullage/api"
	"ullage/vehicle"
)

// printed is the text of the vehicle small.
const printed = `vehicle small;
stage first { dry = 3 t .. 4 t; prop = 10 t .. 12 t; }
engine low in first { count = 2; thrust = 2 MN .. 3 MN; flow = 1 t / s .. 2 t / s; least = 1 / 2; start = 1 s .. 2 s; stop = 0 s .. 1 s; }
engine side in first { count = 4; thrust = 2 MN .. 3 MN; flow = 1 t / s .. 2 t / s; least = 1 / 4; start = 1 s .. 2 s; stop = 0 s .. 1 s; }
stage second { dry = 1 t .. 1 t; prop = 5 t .. 6 t; }
engine high in second { count = 1; thrust = 2 MN .. 3 MN; flow = 1 t / s .. 2 t / s; least = 0; start = 1 s .. 2 s; stop = 0 s .. 1 s; }
drag { 0 km / s : 1 km * km .. 2 km * km; 10 km / s : 3 km * km .. 6 km * km; }
limits { axial = 1 km / s / s / 16; bending = 35000 Pa; }
payload = 1 t .. 2 t;
`

// TestPrint: P2.7.
func TestPrint(t *testing.T) {
	if s := vehicle.Print(small()); s != printed {
		t.Errorf("Print: %q", s)
	}
	half := api.Span{Lo: api.One / 2, Hi: 3 * api.One / 4}
	v := api.Vehicle{
		Name: "A-1",
		Stages: []api.Stage{{Name: "B", Dry: half, Prop: half, Engines: []api.Engine{
			{Name: "C", Count: 64, Thrust: half, Flow: half, Least: 1, Start: half, Stop: half},
		}}},
		Payload: api.Span{Lo: 0, Hi: 3},
		Drag:    []api.Point{{At: 1, Value: half}},
		Axial:   api.MaxPlace,
		Bending: 1 << 31,
	}
	want := `vehicle A-1;
stage B { dry = 1 t / 2 .. 3 t / 4; prop = 1 t / 2 .. 3 t / 4; }
engine C in B { count = 64; thrust = 1 MN / 2 .. 3 MN / 4; flow = 1 t / s / 2 .. 3 t / s / 4; least = 1 / 4294967296; start = 1 s / 2 .. 3 s / 4; stop = 1 s / 2 .. 3 s / 4; }
drag { 1 km / s / 4294967296 : 1 km * km / 2 .. 3 km * km / 4; }
limits { axial = 1048576 km / s / s; bending = 1 Pa / 2; }
payload = 0 t .. 3 t / 4294967296;
`
	if s := vehicle.Print(v); s != want {
		t.Errorf("Print: %q", s)
	}
	for i, w := range wrongVehicles() {
		if s := vehicle.Print(w); s != "" {
			t.Errorf("Print of a vehicle that is not valid, %d: %q", i, s)
		}
	}
}

// TestParsePrint: P2.13.
func TestParsePrint(t *testing.T) {
	wantParse(t, printed, small())
	wantParse(t, vehicle.Print(shipIs()), shipIs())
	s := sample{11}
	short := 0
	for range 500 {
		v := s.vehicle()
		text := vehicle.Print(v)
		if len(text) > api.MaxText {
			continue
		}
		short++
		wantParse(t, text, v)
	}
	if short < 400 {
		t.Errorf("only %d texts are short enough", short)
	}
	v := small()
	v.Stages = stages(api.MaxStages)
	for i := range v.Stages {
		v.Stages[i].Engines = engines(api.MaxEngines)
		for j := range v.Stages[i].Engines {
			v.Stages[i].Engines[j].Name = name(v.Stages[i].Name, j)
		}
	}
	text := vehicle.Print(v)
	if len(text) <= api.MaxText {
		t.Errorf("a text of %d bytes only", len(text))
	}
	wantParseFault(t, text, 0, api.ErrLong)
}
