package point_test

import (
	"math"
	"math/rand"
	"strconv"
	"testing"

	"noontide/api"
	"noontide/chain"
	"noontide/force"
	"noontide/load"
	"noontide/occur"
	"noontide/point"
	"noontide/sample"
	"noontide/until"
)

const (
	hour  = 3600
	day   = 86400
	minT  = -1096193779200
	maxT  = 971890963199
	fifty = -631152000 // January 1 of 1950
)

// place goes by the words: the first era that has no end, or whose end is behind a second.
func place(ends []int64, at int64) int {
	for i, end := range ends {
		if end > at {
			return i
		}
	}
	return len(ends)
}

func compare(t *testing.T, table api.Table, zone int, ends []int64, at int64) {
	t.Helper()
	want, value, why := 0, api.Value{}, api.OK
	switch {
	case zone < 0 || zone >= len(table.Zones):
		why = api.ErrNone
	case at < minT || at > maxT:
		why = api.ErrRange
	default:
		want = place(ends, at)
		value, _ = force.At(table.Rules, table.Zones[zone].Eras[want], at)
	}
	if got, whyNot := point.Era(table, zone, at); got != want || whyNot != why {
		t.Fatalf("Era of %d in %v at %d: %d, %d; not %d, %d", zone, table, at, got, whyNot, want, why)
	}
	if got, whyNot := point.Value(table, zone, at); got != value || whyNot != why {
		t.Fatalf("Value of %d in %v at %d: %v, %d; not %v, %d", zone, table, at, got, whyNot, value, why)
	}
}

// Promise 34.1: any tables that fit, around all ends of eras, and far from them; and places at which there is no zone.
func TestAny(t *testing.T) {
	random := rand.New(rand.NewSource(34))
	for range 4000 {
		table := sample.Table(random.Intn)
		for zone, z := range table.Zones {
			ends, _ := until.Ends(table.Rules, z)
			for _, at := range sample.Around(ends) {
				compare(t, table, zone, ends, at)
			}
		}
		for _, zone := range []int{math.MinInt, -1, len(table.Zones), math.MaxInt} {
			for _, at := range sample.Far() {
				compare(t, table, zone, nil, at)
			}
		}
	}
}

// Promise 34.1: what is known.
func TestKnown(t *testing.T) {
	tests := []struct {
		zone  int
		at    int64
		era   int
		value api.Value
	}{
		{0, minT, 0, api.Value{Off: hour, Abbr: "X"}},
		{0, fifty - hour - 1, 0, api.Value{Off: hour, Abbr: "X"}},
		{0, fifty - hour, 1, api.Value{Off: 2 * hour, Abbr: "Y"}},
		{0, maxT, 1, api.Value{Off: 2 * hour, Abbr: "Y"}},
		{1, minT, 0, api.Value{Off: -5 * hour, Abbr: "EST"}},
		{1, 1710053999, 0, api.Value{Off: -5 * hour, Abbr: "EST"}},
		{1, 1710054000, 0, api.Value{Off: -4 * hour, Save: hour, Abbr: "EDT"}},
		{1, 1730613600, 0, api.Value{Off: -5 * hour, Abbr: "EST"}},
		{1, maxT, 0, api.Value{Off: -5 * hour, Abbr: "EST"}},
	}
	for _, x := range tests {
		era, why := point.Era(sample.Two(), x.zone, x.at)
		value, whyNot := point.Value(sample.Two(), x.zone, x.at)
		if era != x.era || value != x.value || why != api.OK || whyNot != api.OK {
			t.Errorf("zone %d at %d: %d, %v; not %d, %v", x.zone, x.at, era, value, x.era, x.value)
		}
	}
}

// Promise 34.1: that there is no such zone is told ahead of what is out of range.
func TestErrors(t *testing.T) {
	tests := []struct {
		table api.Table
		zone  int
		at    int64
		want  api.Errno
	}{
		{sample.Two(), 2, 0, api.ErrNone},
		{sample.Two(), -1, 0, api.ErrNone},
		{sample.Two(), 2, maxT + 1, api.ErrNone},
		{sample.Two(), -1, math.MinInt64, api.ErrNone},
		{sample.Two(), 1 << 32, 0, api.ErrNone},
		{api.Table{}, 0, 0, api.ErrNone},
		{api.Table{}, 0, minT - 1, api.ErrNone},
		{sample.Two(), 0, minT - 1, api.ErrRange},
		{sample.Two(), 1, maxT + 1, api.ErrRange},
		{sample.Two(), 1, math.MinInt64, api.ErrRange},
		{sample.Two(), 0, math.MaxInt64, api.ErrRange},
	}
	for _, x := range tests {
		era, why := point.Era(x.table, x.zone, x.at)
		value, whyNot := point.Value(x.table, x.zone, x.at)
		if era != 0 || value != (api.Value{}) || why != x.want || whyNot != x.want {
			t.Errorf("zone %d at %d: %d, %d, %v, %d; not %d", x.zone, x.at, era, why, value, whyNot, x.want)
		}
	}
}

// Promise 34.1: a zone of as many eras as it may have, each of which is found at its first and at its last second.
func TestManyEras(t *testing.T) {
	for eras := 1; eras <= api.MaxEras; eras += 1 + eras/8 {
		z := api.Zone{Name: "Z"}
		for i := range eras {
			z.Eras = append(z.Eras, api.Era{Off: int64(i), Format: "%z", Until: sample.Beginning(1700 + i)})
		}
		z.Eras[eras-1].Until = api.Until{}
		table := api.Table{Zones: []api.Zone{{Name: "none", Eras: []api.Era{{Format: "X"}}}, z}}
		if why := load.Table(table); why != api.OK {
			t.Fatal("the table does not fit: ", why)
		}
		ends, _ := until.Ends(nil, z)
		for _, at := range sample.Around(ends) {
			compare(t, table, 1, ends, at)
		}
	}
}

// Promise 34.2: a later second has no earlier era, and it changes at an end's instant.
func TestEraByEra(t *testing.T) {
	random := rand.New(rand.NewSource(342))
	for range 1500 {
		table := sample.Table(random.Intn)
		for zone, z := range table.Zones {
			ends, _ := until.Ends(table.Rules, z)
			for i, end := range ends {
				ahead, _ := point.Era(table, zone, end-1)
				behind, _ := point.Era(table, zone, end)
				if ahead != i || behind != i+1 {
					t.Fatalf("at end %d of %v: %d, and %d", i, z, ahead, behind)
				}
			}
			a, b := minT+random.Int63n(maxT-minT), minT+random.Int63n(maxT-minT)
			early, _ := point.Era(table, zone, min(a, b))
			late, _ := point.Era(table, zone, max(a, b))
			if early > late {
				t.Fatalf("at %d and %d of %v: %d, and %d", min(a, b), max(a, b), z, early, late)
			}
		}
	}
}

// Promise 34.3: offsets are near, and between two seconds that have unlike values stands what makes them so.
func TestNear(t *testing.T) {
	random := rand.New(rand.NewSource(343))
	unlike := 0
	for range 1500 {
		table := sample.Table(random.Intn)
		for zone, z := range table.Zones {
			turns, _ := until.Ends(table.Rules, z)
			for _, e := range z.Eras {
				for _, o := range occur.In(table.Rules, e.Rules, api.Span{From: math.MinInt64, To: math.MaxInt64}, math.MaxInt) {
					at, _ := chain.Instant(table.Rules, e.Rules, e.Off, o)
					turns = append(turns, at)
				}
			}
			for range 50 {
				// Most turns are near to one another.
				a := minT + random.Int63n(maxT-minT)
				if len(turns) > 0 {
					a = turns[random.Intn(len(turns))] + random.Int63n(2*day) - day
				}
				b := a + random.Int63n(400*day)
				if a < minT || b > maxT {
					continue
				}
				first, _ := point.Value(table, zone, a)
				second, _ := point.Value(table, zone, b)
				if max(first.Off, second.Off) > 64800 || min(first.Off, second.Off) < -64800 {
					t.Fatalf("%v, %v", first, second)
				}
				stands := false
				for _, turn := range turns {
					stands = stands || a < turn && turn <= b
				}
				if first != second && !stands {
					t.Fatalf("%d: %v, and %d: %v, of %v", a, first, b, second, z)
				}
				if first != second {
					unlike++
				}
			}
		}
	}
	if unlike < 10000 {
		t.Errorf("%d unlike ones", unlike)
	}
}

// Of a table that does not fit there is an answer, whatever it is.
func TestTablesThatDoNotFit(t *testing.T) {
	last, first := api.Era{Format: "X"}, api.Era{Format: "X", Until: sample.Beginning(1950)}
	zones := [][]api.Era{nil, {}, {{}}, {first}, {last, last}, {first, first}, {{}, last}, {first, {}, last}, {last, first, first, {}, first}, {{Format: "X", Until: api.Until{Has: true}}, first}, {{Kind: api.RulesNamed, Rules: "none", Format: "X"}}}
	for i, eras := range zones {
		table := sample.Two()
		table.Zones = []api.Zone{{Name: strconv.Itoa(i), Eras: eras}}
		for _, at := range sample.Far() {
			if era, why := point.Era(table, 0, at); why != api.OK && era != 0 {
				t.Errorf("beside %d stands %d", why, era)
			}
			if v, why := point.Value(table, 0, at); why != api.OK && v != (api.Value{}) {
				t.Errorf("beside %d stands %v", why, v)
			}
			for _, zone := range []int{-1, 1} {
				compare(t, table, zone, nil, at)
			}
		}
	}
}

// The example.
func TestExample(t *testing.T) {
	for at, want := range map[int64]string{-631155601: "X", -631155600: "Y"} {
		if v, why := point.Value(sample.Two(), 0, at); v.Abbr != want || why != api.OK {
			t.Errorf("at %d: %v, %d", at, v, why)
		}
	}
}
