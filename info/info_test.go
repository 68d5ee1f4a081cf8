package info_test

import (
	"math"
	"math/rand"
	"slices"
	"testing"

	"noontide/api"
	"noontide/info"
	"noontide/load"
	"noontide/point"
	"noontide/sample"
)

const (
	hour = 3600
	minT = -1096193779200
	maxT = 971890963199
	far  = 64800 // how far from universal time a wall clock may be
)

// anyTimes are the first and the last second of each info, and some between.
func anyTimes(random *rand.Rand, l []api.Info) []int64 {
	var times []int64
	for _, i := range l {
		times = append(times, i.Span.From, i.Span.To-1, i.Span.From+random.Int63n(i.Span.To-i.Span.From))
	}
	return times
}

// has is the one of l that has a second.
func has(l []api.Info, at int64) api.Info {
	for _, i := range l {
		if i.Span.From <= at && at < i.Span.To {
			return i
		}
	}
	return api.Info{}
}

func compareAt(t *testing.T, table api.Table, zone int, at int64, want api.Info, whyNot api.Errno) {
	t.Helper()
	if got, why := info.At(table, zone, at); got != want || why != whyNot {
		t.Fatalf("At of %d in %v at %d: %v, %d; not %v, %d", zone, table, at, got, why, want, whyNot)
	}
}

// Promise 36.1: any tables that fit, at the ends of all infos, and between.
func TestAt(t *testing.T) {
	random := rand.New(rand.NewSource(36))
	for range 1500 {
		table := sample.Table(random.Intn)
		for zone := range table.Zones {
			l := sample.Infos(table, zone)
			for _, at := range anyTimes(random, l) {
				compareAt(t, table, zone, at, has(l, at), api.OK)
			}
		}
	}
}

// Promise 36.1: what is known.
func TestKnown(t *testing.T) {
	const turn = -631155600
	x := api.Info{Span: api.Span{From: minT, To: turn}, Value: api.Value{Off: hour, Abbr: "X"}}
	y := api.Info{Span: api.Span{From: turn, To: maxT + 1}, Value: api.Value{Off: 2 * hour, Abbr: "Y"}}
	early := api.Info{Span: api.Span{From: minT, To: 1173596400}, Value: api.Value{Off: -5 * hour, Abbr: "EST"}}
	summer := api.Info{Span: api.Span{From: 1710054000, To: 1730613600}, Value: api.Value{Off: -4 * hour, Save: hour, Abbr: "EDT"}}
	tests := []struct {
		zone int
		at   int64
		want api.Info
	}{
		{0, minT, x}, {0, minT + 1, x}, {0, turn - 1, x}, {0, turn, y}, {0, turn + 1, y}, {0, maxT - 1, y}, {0, maxT, y},
		{1, minT, early}, {1, 0, early}, {1, 1173596399, early}, {1, 1710054000, summer}, {1, 1719792000, summer}, {1, 1730613599, summer},
	}
	for _, x := range tests {
		compareAt(t, sample.Two(), x.zone, x.at, x.want, api.OK)
	}
}

// Promises 36.1 and 36.2: that there is no such zone is told ahead of what is out of range; beside that, and behind the last info and ahead of the first one, there is nothing.
func TestErrors(t *testing.T) {
	times := sample.Far()
	for _, zone := range []int{math.MinInt, -1, 0, 1, 2, math.MaxInt} {
		for _, at := range times {
			why := api.ErrRange
			if zone != 0 && zone != 1 {
				why = api.ErrNone
			} else if minT <= at && at <= maxT {
				continue
			}
			compareAt(t, sample.Two(), zone, at, api.Info{}, why)
			for _, other := range append(times, math.MinInt64) {
				i := api.Info{Span: api.Span{From: other, To: at}, Value: api.Value{Off: 1, Abbr: "Z"}}
				compareNone(t, "Behind", info.Behind, zone, i)
				i.Span = api.Span{From: at, To: other}
				if at != math.MinInt64 {
					i.Span.From++
				}
				compareNone(t, "Ahead", info.Ahead, zone, i)
			}
		}
		compareNone(t, "Ahead", info.Ahead, zone, api.Info{Span: api.Span{From: minT, To: maxT}})
		compareNone(t, "Behind", info.Behind, zone, api.Info{Span: api.Span{From: minT, To: maxT + 1}})
	}
}

func compareNone(t *testing.T, name string, call func(t api.Table, zone int, i api.Info) (api.Info, bool), zone int, i api.Info) {
	t.Helper()
	if got, ok := call(sample.Two(), zone, i); got != (api.Info{}) || ok {
		t.Errorf("%s of %v in %d: %v, %t", name, i, zone, got, ok)
	}
}

// Promise 36.2: of infos, and of such as are none of the zone: the one end alone counts.
func TestBehindAndAhead(t *testing.T) {
	random := rand.New(rand.NewSource(362))
	for range 800 {
		table := sample.Table(random.Intn)
		for zone := range table.Zones {
			l := sample.Infos(table, zone)
			for place, i := range l {
				var ahead, behind api.Info
				if place > 0 {
					ahead = l[place-1]
				}
				if place < len(l)-1 {
					behind = l[place+1]
				}
				if got, ok := info.Behind(table, zone, i); got != behind || ok != (place < len(l)-1) {
					t.Fatalf("Behind of %v in %v: %v, %t; not %v", i, table, got, ok, behind)
				}
				if got, ok := info.Ahead(table, zone, i); got != ahead || ok != (place > 0) {
					t.Fatalf("Ahead of %v in %v: %v, %t; not %v", i, table, got, ok, ahead)
				}
			}
			for _, at := range anyTimes(random, l) {
				i := api.Info{Span: api.Span{From: at + 1, To: at}, Value: api.Value{Off: random.Int63(), Save: 5, Abbr: "Z"}}
				want := has(l, at)
				if got, ok := info.Behind(table, zone, i); got != want || !ok {
					t.Fatalf("Behind of %v in %v: %v, %t; not %v", i, table, got, ok, want)
				}
				if got, ok := info.Ahead(table, zone, i); got != want || !ok {
					t.Fatalf("Ahead of %v in %v: %v, %t; not %v", i, table, got, ok, want)
				}
			}
		}
	}
}

// Promise 36.3: spans and offsets at, and beyond, where they may be; Save and Abbr have no part.
func TestWall(t *testing.T) {
	ends := []int64{math.MinInt64, minT - 1, minT, minT + 1, -1, 0, 1, maxT, maxT + 1, maxT + 2, math.MaxInt64}
	offs := []int64{math.MinInt64, -far - 1, -far, -54001, -1, 0, 1, 54001, far, far + 1, math.MaxInt64, 1 << 32, -1 << 32}
	for _, from := range ends {
		for _, to := range ends {
			for _, off := range offs {
				var want api.Span
				if from < to && from >= minT && to <= maxT+1 && off >= -far && off <= far {
					want = api.Span{From: from + off, To: to + off}
				}
				for _, v := range []api.Value{{}, {Save: hour, Abbr: "X"}, {Save: math.MaxInt64}} {
					v.Off = off
					i := api.Info{Span: api.Span{From: from, To: to}, Value: v}
					if got := info.Wall(i); got != want {
						t.Errorf("Wall of %v: %v; not %v", i, got, want)
					}
				}
			}
		}
	}
}

// Promises 36.3 and 36.4: walls of infos are as long as these; each second of an info has it, and at its ends another value holds.
func TestOneValue(t *testing.T) {
	random := rand.New(rand.NewSource(364))
	for range 800 {
		table := sample.Table(random.Intn)
		for zone := range table.Zones {
			at := minT + random.Int63n(maxT+1-minT)
			if l := sample.Infos(table, zone); random.Intn(4) > 0 {
				at = l[random.Intn(len(l))].Span.From + random.Int63n(hour)
			}
			i, why := info.At(table, zone, at)
			if why != api.OK || i.Span.From > at || i.Span.To <= at || i.Span.From < minT || i.Span.To > maxT+1 {
				t.Fatalf("at %d: %v, %d", at, i, why)
			}
			if wall := info.Wall(i); wall.To-wall.From != i.Span.To-i.Span.From || wall.From-i.Span.From != i.Value.Off {
				t.Fatalf("Wall of %v: %v", i, wall)
			}
			for _, s := range append(anyTimes(random, []api.Info{i}), i.Span.From+random.Int63n(i.Span.To-i.Span.From)) {
				compareAt(t, table, zone, s, i, api.OK)
			}
			ahead, whyA := point.Value(table, zone, i.Span.From-1)
			behind, whyB := point.Value(table, zone, i.Span.To)
			if whyA == api.OK && ahead == i.Value || whyB == api.OK && behind == i.Value {
				t.Fatalf("around %v: %v, and %v", i, ahead, behind)
			}
			if (whyA != api.OK) != (i.Span.From == minT) || (whyB != api.OK) != (i.Span.To == maxT+1) {
				t.Fatalf("around %v: %d, and %d", i, whyA, whyB)
			}
		}
	}
}

// Promise 36.5: from the first info on, one behind the other, and back from the last one.
func TestAll(t *testing.T) {
	random := rand.New(rand.NewSource(365))
	for range 400 {
		table := sample.Table(random.Intn)
		for zone := range table.Zones {
			compareAll(t, table, zone)
		}
	}
	table := sample.Two()
	for i := range table.Rules {
		table.Rules[i].To = 3000
	}
	if why := load.Table(table); why != api.OK {
		t.Fatal("the table does not fit: ", why)
	}
	compareAll(t, table, 1)
}

func compareAll(t *testing.T, table api.Table, zone int) {
	t.Helper()
	var there, back []api.Info
	i, why := info.At(table, zone, minT)
	for ok := why == api.OK; ok; i, ok = info.Behind(table, zone, i) {
		there = append(there, i)
	}
	i, why = info.At(table, zone, maxT)
	for ok := why == api.OK; ok; i, ok = info.Ahead(table, zone, i) {
		back = append(back, i)
	}
	slices.Reverse(back)
	if !slices.Equal(there, back) || len(there) == 0 {
		t.Fatalf("there are %v, and back %v", there, back)
	}
	next := int64(minT)
	for _, i := range there {
		if i.Span.From != next || i.Span.To <= next {
			t.Fatalf("behind %d comes %v", next, i)
		}
		next = i.Span.To
	}
	if next != maxT+1 {
		t.Fatal("the last one ends at ", next)
	}
}

// Of a table that does not fit there is an answer, whatever it is.
func TestTablesThatDoNotFit(t *testing.T) {
	last, first := api.Era{Format: "X"}, api.Era{Format: "X", Until: sample.Beginning(1950)}
	for _, eras := range [][]api.Era{nil, {}, {{}}, {first}, {last, last}, {first, first}, {{}, last}, {first, {}, last}, {last, first, first, {}, first}} {
		table := api.Table{Zones: []api.Zone{{Eras: eras}}}
		for _, at := range []int64{minT, -700000000, 0, maxT, math.MaxInt64} {
			i, why := info.At(table, 0, at)
			if why != api.OK && i != (api.Info{}) {
				t.Errorf("beside %d: %v", why, i)
			}
			info.Behind(table, 0, i)
			info.Ahead(table, 0, i)
		}
	}
}

// The example.
func TestExample(t *testing.T) {
	table, _ := load.Source("Zone A 0 - UTC")
	want := api.Info{Span: api.Span{From: minT, To: maxT + 1}, Value: api.Value{Abbr: "UTC"}}
	for _, at := range []int64{minT, -1, 0, 1, maxT} {
		compareAt(t, table, 0, at, want, api.OK)
	}
}
