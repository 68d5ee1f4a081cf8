package change_test

import (
	"math"
	"math/rand"
	"slices"
	"strconv"
	"testing"

	"noontide/api"
	"noontide/chain"
	"noontide/change"
	"noontide/load"
	"noontide/occur"
	"noontide/point"
	"noontide/sample"
	"noontide/until"
)

const (
	hour  = 3600
	day   = 86400
	minT  = -1096193779200
	maxT  = 971890963199
	fifty = -631152000 // January 1 of 1950
)

// of is a table of one zone, which fits.
func of(t *testing.T, rules []api.Rule, eras ...api.Era) api.Table {
	t.Helper()
	table := api.Table{Rules: rules, Zones: []api.Zone{{Name: "Z", Eras: eras}}}
	if why := load.Table(table); why != api.OK {
		t.Fatalf("%v does not fit: %d", table, why)
	}
	return table
}

// changes go by the words: what might be one is held against the second ahead.
func changes(table api.Table, zone int) []int64 {
	z := table.Zones[zone]
	l, _ := until.Ends(table.Rules, z)
	for _, e := range z.Eras {
		for _, o := range occur.In(table.Rules, e.Rules, api.Span{From: math.MinInt64, To: math.MaxInt64}, math.MaxInt) {
			at, _ := chain.Instant(table.Rules, e.Rules, e.Off, o)
			l = append(l, at)
		}
	}
	slices.Sort(l)
	return slices.DeleteFunc(slices.Compact(l), func(at int64) bool {
		ahead, why := point.Value(table, zone, at-1)
		v, whyNot := point.Value(table, zone, at)
		return why != api.OK || whyNot != api.OK || v == ahead
	})
}

// compare asks Next and Prev at a second; l are all changes.
func compare(t *testing.T, table api.Table, zone int, l []int64, at int64) {
	t.Helper()
	behind, _ := slices.BinarySearch(l, at+1)
	if at == math.MaxInt64 {
		behind = len(l)
	}
	isIn := at >= minT && at <= maxT && zone >= 0 && zone < len(table.Zones)
	var next, prev int64
	isNext, isPrev := isIn && behind < len(l), isIn && behind > 0
	if isNext {
		next = l[behind]
	}
	if isPrev {
		prev = l[behind-1]
	}
	if got, ok := change.Next(table, zone, at); got != next || ok != isNext {
		t.Fatalf("Next of %d in %v at %d: %d, %t; not %d, %t", zone, table, at, got, ok, next, isNext)
	}
	if got, ok := change.Prev(table, zone, at); got != prev || ok != isPrev {
		t.Fatalf("Prev of %d in %v at %d: %d, %t; not %d, %t", zone, table, at, got, ok, prev, isPrev)
	}
}

// places are those of all zones, and such at which there is none.
func places(table api.Table) []int {
	l := []int{math.MinInt, -1, len(table.Zones), math.MaxInt}
	for zone := range table.Zones {
		l = append(l, zone)
	}
	return l
}

// changesOf are none, if there is no such zone.
func changesOf(table api.Table, zone int) []int64 {
	if zone < 0 || zone >= len(table.Zones) {
		return nil
	}
	return changes(table, zone)
}

// Promise 35.1: any tables that fit, around all changes and all ends of eras, and far from them.
func TestNextAndPrev(t *testing.T) {
	random := rand.New(rand.NewSource(35))
	for range 1500 {
		table := sample.Table(random.Intn)
		for _, zone := range places(table) {
			l := changesOf(table, zone)
			times := sample.Around(l)
			if l != nil {
				ends, _ := until.Ends(table.Rules, table.Zones[zone])
				times = append(times, sample.Around(ends)...)
			}
			for _, at := range times {
				compare(t, table, zone, l, at)
			}
		}
	}
}

// compareCount counts in a span; l are all changes.
func compareCount(t *testing.T, table api.Table, zone int, l []int64, s api.Span, most int) {
	t.Helper()
	want := 0
	for _, c := range l {
		if s.From <= c && c < s.To && want < most {
			want++
		}
	}
	if got := change.Count(table, zone, s, most); got != want {
		t.Fatalf("Count of %d in %v, %v, %d: %d; not %d", zone, table, s, most, got, want)
	}
}

// Promise 35.2: any tables that fit, and spans whose ends are at, ahead of, and behind changes, or far from them; and such that may not be.
func TestCount(t *testing.T) {
	random := rand.New(rand.NewSource(352))
	for range 1000 {
		table := sample.Table(random.Intn)
		for _, zone := range places(table) {
			l := changesOf(table, zone)
			ends := sample.Far()
			for _, c := range l {
				ends = append(ends, c-1, c, c+1)
			}
			for range 20 {
				s := api.Span{From: ends[random.Intn(len(ends))], To: ends[random.Intn(len(ends))]}
				for _, most := range []int{math.MinInt, -1, 0, 1, 2, len(l) - 1, len(l), math.MaxInt} {
					compareCount(t, table, zone, l, s, most)
				}
			}
			compareCount(t, table, zone, l, api.Span{From: math.MinInt64, To: math.MaxInt64}, math.MaxInt)
		}
	}
}

// Promises 35.1 and 35.2: at the first second that has a stamp nothing changes; at the next one, and at the last one, something may.
func TestEnds(t *testing.T) {
	rules := []api.Rule{
		{Name: "A", From: api.MinYear, To: api.MinYear, Month: 1, On: api.On{Day: 1}, At: api.At{Base: api.AtUtc}, Save: -hour},
		{Name: "A", From: api.MaxYear, To: api.MaxYear, Month: 12, On: api.On{Day: 31}, At: api.At{Base: api.AtUtc}, Save: hour},
	}
	era := api.Era{Kind: api.RulesNamed, Rules: "A", Format: "%z"}
	for _, x := range []struct {
		first, last int64
		want        []int64
	}{
		{0, day - 1, []int64{maxT}},
		{0, day, nil},
		{1, day - 2, []int64{minT + 1, maxT - 1}},
		{1, day - 1, []int64{minT + 1, maxT}},
		{1, day, []int64{minT + 1}},
		{2, 0, []int64{minT + 2, maxT + 1 - day}},
	} {
		l := slices.Clone(rules)
		l[0].At.Sec, l[1].At.Sec = x.first, x.last
		table := of(t, l, era)
		if got := changes(table, 0); !slices.Equal(got, x.want) {
			t.Fatalf("the changes are %v; not %v", got, x.want)
		}
		for _, at := range sample.Around(x.want) {
			compare(t, table, 0, x.want, at)
		}
		for _, from := range sample.Around(x.want) {
			for _, to := range sample.Around(x.want) {
				compareCount(t, table, 0, x.want, api.Span{From: from, To: to}, 9)
			}
		}
	}
}

// Promise 35.1: what holds on is no change, though eras end, or rules change what another era's have changed already.
func TestNoChange(t *testing.T) {
	at := func(e api.Era, u api.Until) api.Era {
		e.Until = u
		return e
	}
	fall := api.Until{Has: true, Year: 2024, Month: 11, On: api.On{Kind: api.OnFrom, Day: 1}, At: api.At{Sec: 7200}}
	summer := api.Until{Has: true, Year: 2024, Month: 7, On: api.On{Day: 1}}
	spring := api.Span{From: 1700000000, To: 1750000000}
	dst := api.Era{Off: -5 * hour, Kind: api.RulesFixed, Save: hour, Format: "EDT"}
	est := api.Era{Off: -5 * hour, Format: "EST"}
	x := api.Era{Off: -4 * hour, Format: "EDT"}
	tests := []struct {
		eras []api.Era
		want []int64
	}{
		{[]api.Era{sample.East()}, []int64{1710054000, 1730613600, 1741503600}},
		// An era that is as the one ahead.
		{[]api.Era{at(sample.East(), summer), sample.East()}, []int64{1710054000, 1730613600, 1741503600}},
		// It ends just where a rule changes something: in the first one that is not seen, in the second one it is.
		{[]api.Era{at(sample.East(), fall), sample.East()}, []int64{1710054000, 1730613600, 1741503600}},
		{[]api.Era{at(sample.East(), fall), est}, []int64{1710054000, 1730613600}},
		{[]api.Era{at(sample.East(), fall), dst}, []int64{1710054000}},
		{[]api.Era{at(dst, fall), sample.East()}, []int64{1730613600, 1741503600}},
		{[]api.Era{at(est, fall), sample.East()}, []int64{1741503600}},
		// What is saved has a part in the value, though the offset and the name don't tell it.
		{[]api.Era{at(dst, fall), x}, []int64{1730613600}},
		{[]api.Era{at(x, fall), at(dst, sample.Beginning(2026)), sample.East()}, []int64{1730613600}},
		// Many eras in which nothing changes.
		{[]api.Era{at(est, sample.Beginning(1950)), at(est, sample.Beginning(1960)), at(api.Era{Off: -5 * hour, Kind: api.RulesFixed, Format: "EST"}, sample.Beginning(1970)), at(est, sample.Beginning(2024)), sample.East()}, []int64{1710054000, 1730613600, 1741503600}},
	}
	for i, x := range tests {
		table := of(t, sample.US(), x.eras...)
		var got []int64
		for c, ok := change.Next(table, 0, spring.From); ok && c < spring.To; c, ok = change.Next(table, 0, c) {
			got = append(got, c)
		}
		var back []int64
		for c, ok := change.Prev(table, 0, spring.To); ok && c > spring.From; c, ok = change.Prev(table, 0, c-1) {
			back = append(back, c)
		}
		slices.Reverse(back)
		if !slices.Equal(got, x.want) || !slices.Equal(back, x.want) {
			t.Errorf("test %d: %v, and %v; not %v", i, got, back, x.want)
		}
		if n := change.Count(table, 0, spring, 99); n != len(x.want) {
			t.Errorf("test %d: Count is %d", i, n)
		}
	}
}

// Promises 35.1 and 35.2: zones of as many eras as they may have, of which none, each one, or one in the midst brings a change.
func TestManyEras(t *testing.T) {
	eras := func(off func(i int) int64) []api.Era {
		var l []api.Era
		for i := range api.MaxEras {
			l = append(l, api.Era{Off: off(i), Format: "%z", Until: sample.Beginning(1700 + i)})
		}
		l[api.MaxEras-1].Until = api.Until{}
		return l
	}
	tests := [][]api.Era{
		eras(func(i int) int64 { return 0 }),
		eras(func(i int) int64 { return int64(i) }),
		eras(func(i int) int64 { return int64(i / 100) }),
	}
	for i, l := range tests {
		table := of(t, nil, l...)
		want := changes(table, 0)
		if len(want) != []int{0, api.MaxEras - 1, 2}[i] {
			t.Fatal("changes: ", len(want))
		}
		for _, at := range sample.Around(want) {
			compare(t, table, 0, want, at)
		}
		compareCount(t, table, 0, want, api.Span{From: minT, To: maxT + 1}, math.MaxInt)
	}
}

// Promise 35.2: all changes of all years.
func TestCountAll(t *testing.T) {
	table := of(t, sample.US(), sample.East())
	all := 2 * (api.MaxYear - 2007 + 1)
	for s, want := range map[api.Span]int{
		{From: math.MinInt64, To: math.MaxInt64}:     all,
		{From: minT, To: maxT + 1}:                   all,
		{From: 1173596400, To: maxT}:                 all,
		{From: 1173596401, To: maxT}:                 all - 1,
		{From: math.MinInt64, To: math.MinInt64 + 1}: 0,
		{From: math.MaxInt64 - 1, To: math.MaxInt64}: 0,
		{From: maxT + 1, To: math.MaxInt64}:          0,
		{From: maxT, To: maxT + 9}:                   0,
		{From: math.MinInt64, To: 1173596401}:        1,
		{From: math.MinInt64, To: 1173596400}:        0,
	} {
		if got := change.Count(table, 0, s, math.MaxInt); got != want {
			t.Errorf("Count of %v: %d; not %d", s, got, want)
		}
	}
}

// Promises 35.3, 35.4 and 35.5: from Prev on up to Next one value holds, one comes back, and two changes are far enough from each other.
func TestBetween(t *testing.T) {
	random := rand.New(rand.NewSource(353))
	for range 1000 {
		table := sample.Table(random.Intn)
		for zone := range table.Zones {
			ahead, farther := int64(minT), int64(0)
			for c, ok := change.Next(table, zone, minT); ok; c, ok = change.Next(table, zone, c) {
				old, _ := point.Value(table, zone, c-1)
				v, _ := point.Value(table, zone, c)
				step := max(old.Off-v.Off, v.Off-old.Off)
				if farther > 0 && c-ahead < step+farther {
					t.Fatalf("zone %d of %v: %d, and %d", zone, table, ahead, c)
				}
				for range 5 {
					if held, _ := point.Value(table, zone, ahead+random.Int63n(c-ahead)); held != old {
						t.Fatalf("zone %d of %v between %d and %d: %v, and %v", zone, table, ahead, c, held, old)
					}
				}
				back, isBack := change.Prev(table, zone, c)
				there, isThere := change.Next(table, zone, c-1)
				if v == old || back != c || !isBack || there != c || !isThere {
					t.Fatalf("zone %d of %v: at %d %v, ahead of it %v; Prev is %d, Next %d", zone, table, c, v, old, back, there)
				}
				ahead, farther = c, step
			}
		}
	}
}

// Of a table that does not fit there is an answer, whatever it is; but of a zone that is not there, or in a span that may not be, there is nothing.
func TestTablesThatDoNotFit(t *testing.T) {
	last, first, late, rules := api.Era{Format: "X"}, api.Era{Format: "Y", Until: sample.Beginning(1950)}, sample.East(), sample.East()
	late.Until, rules.Format = sample.Beginning(2030), "a/b/c"
	zones := [][]api.Era{
		nil, {}, {{}}, {first}, {last, last}, {first, first}, {{}, last}, {first, {}, last}, {last, first, first, {}, first}, {late}, {late, first}, {late, first, late}, {late, late},
		{{Format: "X", Until: api.Until{Has: true}}, first}, {{Kind: api.RulesNamed, Rules: "none", Format: "X"}}, {rules}, {first, rules}, {rules, late, first, last},
	}
	crowded := append(sample.US(), sample.US()...)
	for i := range crowded {
		crowded[i].To, crowded[i].Month = 2010+i, 3
	}
	for i, eras := range zones {
		for _, l := range [][]api.Rule{nil, sample.US(), crowded} {
			table := api.Table{Rules: l, Zones: []api.Zone{{Name: strconv.Itoa(i), Eras: eras}}}
			for _, at := range append(sample.Far(), fifty, 1719792000) {
				change.Next(table, 0, at)
				change.Prev(table, 0, at)
				change.Count(table, 0, api.Span{From: at, To: math.MaxInt64}, 100)
				for _, zone := range []int{-1, 1} {
					compare(t, table, zone, nil, at)
					compareCount(t, table, zone, nil, api.Span{From: at, To: math.MaxInt64}, 100)
				}
				compareCount(t, table, 0, nil, api.Span{From: at, To: at}, 100)
			}
		}
	}
}

// The example.
func TestExample(t *testing.T) {
	ends := api.Era{Off: hour, Format: "X", Until: sample.Beginning(1950)}
	table := of(t, nil, ends, api.Era{Off: hour, Format: "X"})
	if c, ok := change.Next(table, 0, minT); c != 0 || ok {
		t.Error(c, ok)
	}
}
