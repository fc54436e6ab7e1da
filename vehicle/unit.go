package vehicle

import "ullage/api"

// dimension is the exponents of km, s and t.
type dimension [3]int

// measure is what a field of the language measures: a row of measures.
type measure int

const (
	plain measure = iota
	mass
	force
	rate
	duration
	speed
	area
	acceleration
	pressure
)

// measureRow is the dimension of a measure, and the unit in which Print writes it.
type measureRow struct {
	is   dimension
	unit string
}

// measures has a row for each measure, in their order.
var measures = [...]measureRow{
	{dimension{0, 0, 0}, ""},
	{dimension{0, 0, 1}, "t"},
	{dimension{1, -2, 1}, "MN"},
	{dimension{0, -1, 1}, "t / s"},
	{dimension{0, 1, 0}, "s"},
	{dimension{1, -1, 0}, "km / s"},
	{dimension{2, 0, 0}, "km * km"},
	{dimension{1, -2, 0}, "km / s / s"},
	{dimension{-1, -2, 1}, "Pa"},
}

// Units returns the units.
func Units() []api.Unit {
	return []api.Unit{
		{Name: "km", Is: api.Quantity{Num: 1, Den: 1, Km: 1}},
		{Name: "m", Is: api.Quantity{Num: 1, Den: 1000, Km: 1}},
		{Name: "cm", Is: api.Quantity{Num: 1, Den: 100000, Km: 1}},
		{Name: "s", Is: api.Quantity{Num: 1, Den: 1, S: 1}},
		{Name: "ms", Is: api.Quantity{Num: 1, Den: 1000, S: 1}},
		{Name: "min", Is: api.Quantity{Num: 60, Den: 1, S: 1}},
		{Name: "h", Is: api.Quantity{Num: 3600, Den: 1, S: 1}},
		{Name: "t", Is: api.Quantity{Num: 1, Den: 1, T: 1}},
		{Name: "kg", Is: api.Quantity{Num: 1, Den: 1000, T: 1}},
		{Name: "MN", Is: api.Quantity{Num: 1, Den: 1, Km: 1, S: -2, T: 1}},
		{Name: "kN", Is: api.Quantity{Num: 1, Den: 1000, Km: 1, S: -2, T: 1}},
		{Name: "N", Is: api.Quantity{Num: 1, Den: 1000000, Km: 1, S: -2, T: 1}},
		{Name: "Pa", Is: api.Quantity{Num: 1, Den: 1, Km: -1, S: -2, T: 1}},
		{Name: "kPa", Is: api.Quantity{Num: 1000, Den: 1, Km: -1, S: -2, T: 1}},
	}
}

// unitOf returns what a word stands for, if it is the name of a unit.
func unitOf(word string) (api.Quantity, bool) {
	for _, u := range Units() {
		if u.Name == word {
			return u.Is, true
		}
	}
	return api.Quantity{}, false
}
