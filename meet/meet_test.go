package meet_test

import (
	"math"
	"math/rand"
	"reflect"
	"slices"
	"testing"
	"time"

	"noontide/api"
	"noontide/load"
	"noontide/mean"
	"noontide/meet"
	"noontide/point"
	"noontide/sample"
	"noontide/spans"
	"noontide/window"
)

const (
	hour     = 3600
	day      = 86400
	minT     = -1096193779200
	maxT     = 971890963199
	mostSecs = 4000 * 366 * day
)

// far are places at which no table has a zone.
var far = []int{math.MinInt, -1, math.MaxInt}

// alike tells whether two values are, by the words.
func alike(a, b api.Value, by int) bool {
	switch by {
	case 1:
		return a.Off == b.Off
	case 2:
		return a.Save == b.Save
	case 3:
		return a.Abbr == b.Abbr
	}
	return a.Off == b.Off && a.Save == b.Save && a.Abbr == b.Abbr
}

// both are where either of two zones begins to have something hold, from MinT on, and where all seconds end.
func both(a, b []api.Info) []int64 {
	edges := []int64{maxT + 1}
	for _, i := range slices.Concat(a, b) {
		edges = append(edges, i.Span.From)
	}
	slices.Sort(edges)
	return slices.Compact(edges)
}

// held is what holds in a zone whose infos are l.
func held(l []api.Info, at int64) api.Value {
	return l[slices.IndexFunc(l, func(i api.Info) bool { return i.Span.From <= at && at < i.Span.To })].Value
}

// alikes is what Alike must answer of all seconds of a span, edge by edge.
func alikes(a, b []api.Info, s api.Span, by int) []api.Span {
	var l []api.Span
	edges := both(a, b)
	for n, to := range edges[1:] {
		from := edges[n]
		if alike(held(a, from), held(b, from), by) {
			l = append(l, api.Span{From: from, To: to})
		}
	}
	return spans.And(l, []api.Span{s})
}

// aparts is what Apart must answer of a span, edge by edge.
func aparts(a, b []api.Info, s api.Span) []api.Part {
	var l []api.Part
	edges := both(a, b)
	for n, to := range edges[1:] {
		during := api.Span{From: max(edges[n], s.From), To: min(to, s.To)}
		if during.From >= during.To {
			continue
		}
		val := held(a, edges[n]).Off - held(b, edges[n]).Off
		if last := len(l) - 1; last >= 0 && l[last].Val == val {
			l[last].Span.To = during.To
			continue
		}
		l = append(l, api.Part{Span: during, Val: val})
	}
	return l
}

// next is what Next must answer, edge by edge.
func next(a, b []api.Info, at int64) (int64, bool) {
	if at < minT || at > maxT {
		return 0, false
	}
	diff := func(t int64) int64 { return held(a, t).Off - held(b, t).Off }
	for _, t := range both(a, b) {
		if t > at && t <= maxT && diff(t) != diff(at) {
			return t, true
		}
	}
	return 0, false
}

func one[T any](random *rand.Rand, l ...T) T {
	return l[random.Intn(len(l))]
}

// pairs makes a table, the last zone of which is often one of the others, but for some of its eras; and two of its zones.
func pairs(random *rand.Rand) (table api.Table, a, b int) {
	table = sample.Table(random.Intn)
	a, b = random.Intn(len(table.Zones)), len(table.Zones)
	like := api.Zone{Name: "like", Eras: slices.Clone(table.Zones[a].Eras)}
	for n := range like.Eras {
		e := &like.Eras[n]
		switch random.Intn(6) {
		case 0:
			e.Format = one(random, "X", "E%sT", "%z", "S/D")
		case 1:
			e.Off += one[int64](random, 0, 1, -hour)
		case 2:
			e.Kind, e.Save, e.Rules = one(random, api.RulesNone, api.RulesFixed), 0, ""
		}
	}
	table.Zones = append(table.Zones, like)
	if random.Intn(4) == 0 {
		a = random.Intn(len(table.Zones))
	}
	if load.Table(table) != api.OK {
		return pairs(random)
	}
	return table, a, b
}

// someTimes are at, ahead of and behind edges, between these, and far ones.
func someTimes(random *rand.Rand, edges []int64) []int64 {
	times := append(sample.Far(), math.MinInt64, math.MaxInt64)
	for n, t := range edges {
		times = append(times, t-1, t, t+1)
		if n > 0 {
			times = append(times, edges[n-1]+random.Int63n(t-edges[n-1]))
		}
	}
	return times
}

func compareAlike(t *testing.T, table api.Table, a, b int, s api.Span, by, most int, want []api.Span, whyNot api.Errno) {
	t.Helper()
	if l, why := meet.Alike(table, a, b, s, by, most); !slices.Equal(l, want) || why != whyNot {
		t.Fatalf("Alike of %d and %d in %v, %v, by %d, %d: %v, %d; not %v, %d", a, b, table, s, by, most, l, why, want, whyNot)
	}
}

func compareApart(t *testing.T, table api.Table, a, b, from, to int, want []api.Part, whyNot api.Errno) {
	t.Helper()
	if l, why := meet.Apart(table, a, b, from, to); !slices.Equal(l, want) || why != whyNot {
		t.Fatalf("Apart of %d and %d in %v, %d to %d: %v, %d; not %v, %d", a, b, table, from, to, l, why, want, whyNot)
	}
}

func compareMean(t *testing.T, table api.Table, a, b, from, to int, want float64, whyNot api.Errno) {
	t.Helper()
	if m, why := meet.Mean(table, a, b, from, to); math.Float64bits(m) != math.Float64bits(want) || why != whyNot {
		t.Fatalf("Mean of %d and %d in %v, %d to %d: %v, %d; not %v, %d", a, b, table, from, to, m, why, want, whyNot)
	}
}

func compareNext(t *testing.T, table api.Table, a, b int, at, want int64, is bool) {
	t.Helper()
	if got, ok := meet.Next(table, a, b, at); got != want || ok != is {
		t.Fatalf("Next of %d and %d in %v at %d: %d, %v; not %d, %v", a, b, table, at, got, ok, want, is)
	}
}

// anySpan is not too wide, and often has several edges.
func anySpan(random *rand.Rand, times, edges []int64) api.Span {
	s := api.Span{From: one(random, times...), To: one(random, times...)}
	if inner := edges[1 : len(edges)-1]; len(inner) > 0 && random.Intn(3) > 0 {
		s = api.Span{From: one(random, inner...) - random.Int63n(9*day), To: one(random, inner...) + random.Int63n(9*day)}
	}
	if s.From > s.To {
		s.From, s.To = s.To, s.From
	}
	if s.From == s.To || uint64(s.To)-uint64(s.From) > mostSecs {
		return anySpan(random, times, edges)
	}
	return s
}

// Promises 48.1, 48.4 and 48.5: any tables that fit, any spans; the other way round it is the same; second by second at all edges.
func TestAlike(t *testing.T) {
	random := rand.New(rand.NewSource(48))
	many := map[int]int{}
	for range 1000 {
		table, a, b := pairs(random)
		ofA, ofB := sample.Infos(table, a), sample.Infos(table, b)
		edges := both(ofA, ofB)
		times := someTimes(random, edges)
		for range 10 {
			s, by := anySpan(random, times, edges), 1+random.Intn(4)
			want := alikes(ofA, ofB, s, by)
			if len(want) > 1 {
				many[by]++
			}
			for _, most := range []int{1, 2, 3, len(want) - 1, len(want), len(want) + 1, math.MaxInt} {
				if most > 0 {
					compareAlike(t, table, a, b, s, by, most, want[:min(most, len(want))], api.OK)
				}
			}
			compareAlike(t, table, b, a, s, by, math.MaxInt, want, api.OK)
			compareSeconds(t, random, table, a, b, s, by, want)
			compareSelf(t, table, a, s, by)
		}
	}
	for by := 1; by <= 4; by++ {
		if many[by] < 100 {
			t.Errorf("%d by %d", many[by], by)
		}
	}
}

// compareSeconds asks point at and around the edges of a set, and between.
func compareSeconds(t *testing.T, random *rand.Rand, table api.Table, a, b int, s api.Span, by int, set []api.Span) {
	t.Helper()
	times := []int64{s.From, s.To - 1, s.From + random.Int63n(s.To-s.From)}
	for _, x := range set {
		times = append(times, x.From-1, x.From, x.To-1, x.To)
	}
	for _, at := range times {
		if at < s.From || at >= s.To {
			continue
		}
		v, why := point.Value(table, a, at)
		w, _ := point.Value(table, b, at)
		_, is := spans.Find(set, at)
		if is != (why == api.OK && alike(v, w, by)) {
			t.Fatalf("at %d hold %v and %v; by %d the set is %v", at, v, w, by, set)
		}
	}
}

// compareSelf asks whether a zone is alike to itself.
func compareSelf(t *testing.T, table api.Table, a int, s api.Span, by int) {
	t.Helper()
	cut := api.Span{From: max(s.From, minT), To: min(s.To, maxT+1)}
	var want []api.Span
	if cut.From < cut.To {
		want = []api.Span{cut}
	}
	compareAlike(t, table, a, a, s, by, 1, want, api.OK)
}

// Promise 48.1: spans that are as wide as may be, and one second more; that begin, or end, where seconds do; or have none of these.
func TestAlikeSpans(t *testing.T) {
	table := sample.Two()
	tests := []struct {
		s      api.Span
		want   []api.Span
		whyNot api.Errno
	}{
		{api.Span{From: 0, To: mostSecs}, []api.Span{{From: 0, To: mostSecs}}, api.OK},
		{api.Span{From: 0, To: mostSecs + 1}, nil, api.ErrRange},
		{api.Span{From: minT, To: minT + mostSecs}, []api.Span{{From: minT, To: minT + mostSecs}}, api.OK},
		{api.Span{From: minT, To: minT + mostSecs + 1}, nil, api.ErrRange},
		{api.Span{From: minT - 5, To: minT + mostSecs - 5}, []api.Span{{From: minT, To: minT + mostSecs - 5}}, api.OK},
		{api.Span{From: minT - mostSecs, To: minT}, nil, api.OK},
		{api.Span{From: minT - mostSecs, To: minT + 1}, nil, api.ErrRange},
		{api.Span{From: minT - 5, To: minT + 1}, []api.Span{{From: minT, To: minT + 1}}, api.OK},
		{api.Span{From: maxT, To: maxT + 5}, []api.Span{{From: maxT, To: maxT + 1}}, api.OK},
		{api.Span{From: maxT - 5, To: maxT + 1}, []api.Span{{From: maxT - 5, To: maxT + 1}}, api.OK},
		{api.Span{From: maxT + 1, To: maxT + 5}, nil, api.OK},
		{api.Span{From: math.MinInt64, To: math.MinInt64 + mostSecs}, nil, api.OK},
		{api.Span{From: math.MaxInt64 - mostSecs, To: math.MaxInt64}, nil, api.OK},
		{api.Span{From: math.MinInt64, To: math.MaxInt64}, nil, api.ErrRange},
		{api.Span{From: math.MinInt64, To: 0}, nil, api.ErrRange},
		{api.Span{From: -1, To: math.MaxInt64}, nil, api.ErrRange},
		{api.Span{From: math.MaxInt64, To: math.MinInt64}, nil, api.ErrRange},
		{api.Span{From: 5, To: 5}, nil, api.ErrRange},
		{api.Span{From: 6, To: 5}, nil, api.ErrRange},
	}
	for _, x := range tests {
		for by := 1; by <= 4; by++ {
			compareAlike(t, table, 0, 0, x.s, by, 1, x.want, x.whyNot)
		}
	}
}

// Promise 48.1: which error is told, where several apply.
func TestAlikeErrors(t *testing.T) {
	table := sample.Two()
	right := api.Span{From: 0, To: 9}
	for _, s := range []api.Span{right, {}, {From: 9}, {From: minT, To: maxT}} {
		for _, by := range []int{math.MinInt, -1, 0, 1, 2, 3, 4, 5, 1 << 32, math.MaxInt} {
			for _, most := range []int{math.MinInt, -1, 0, 1, math.MaxInt} {
				for _, zone := range append(slices.Clone(far), 2) {
					compareAlike(t, table, zone, 0, s, by, most, nil, api.ErrNone)
					compareAlike(t, table, 1, zone, s, by, most, nil, api.ErrNone)
					compareAlike(t, table, zone, zone, s, by, most, nil, api.ErrNone)
				}
				switch {
				case by < 1 || by > 4:
					compareAlike(t, table, 0, 1, s, by, most, nil, api.ErrForm)
				case s != right || most < 1:
					compareAlike(t, table, 0, 1, s, by, most, nil, api.ErrRange)
				}
			}
		}
	}
	compareAlike(t, api.Table{}, 0, 0, right, 1, 1, nil, api.ErrNone)
}

// known is a table of zones that are alike by some of what is looked at, and not by other things.
func known() api.Table {
	table := sample.Two()
	named, fixed, late := sample.East(), api.Era{Off: -5 * hour, Kind: api.RulesFixed, Save: hour, Format: "EDT"}, api.Era{Off: -4 * hour, Format: "EDT"}
	named.Format = "W%sT"
	table.Zones = append(table.Zones, api.Zone{Name: "N", Eras: []api.Era{named}}, api.Zone{Name: "F", Eras: []api.Era{fixed}}, api.Zone{Name: "L", Eras: []api.Era{late}})
	return table
}

// Promise 48.1: what is known: offsets, what is saved, names and all of these are looked at each for itself; what touches is one.
func TestAlikeKnown(t *testing.T) {
	table := known()
	if why := load.Table(table); why != api.OK {
		t.Fatal(why)
	}
	year := api.Span{From: 1704067200, To: 1735689600}
	summer := []api.Span{{From: 1710054000, To: 1730613600}}
	winter := []api.Span{{From: year.From, To: 1710054000}, {From: 1730613600, To: year.To}}
	whole := []api.Span{year}
	tests := []struct {
		a, b int
		want [5][]api.Span
	}{
		{1, 1, [5][]api.Span{1: whole, 2: whole, 3: whole, 4: whole}},
		{1, 2, [5][]api.Span{1: whole, 2: whole}},
		{1, 3, [5][]api.Span{1: summer, 2: summer, 3: summer, 4: summer}},
		{1, 4, [5][]api.Span{1: summer, 2: winter, 3: summer}},
		{2, 4, [5][]api.Span{1: summer, 2: winter}},
		{3, 4, [5][]api.Span{1: whole, 3: whole}},
		{0, 4, [5][]api.Span{2: whole}},
		{0, 3, [5][]api.Span{}},
	}
	for _, x := range tests {
		for by := 1; by <= 4; by++ {
			compareAlike(t, table, x.a, x.b, year, by, 9, x.want[by], api.OK)
			compareAlike(t, table, x.b, x.a, year, by, 1, x.want[by][:min(1, len(x.want[by]))], api.OK)
		}
	}
}

// begin is the first second of a year.
func begin(year int) int64 {
	return time.Date(year, 1, 1, 0, 0, 0, 0, time.UTC).Unix()
}

// Promises 48.2 and 48.5: any tables that fit, years in which something changes, or nothing; the other way round all is below 0.
func TestApart(t *testing.T) {
	random := rand.New(rand.NewSource(482))
	merged, parts := 0, 0
	for range 1000 {
		table, a, b := pairs(random)
		ofA, ofB := sample.Infos(table, a), sample.Infos(table, b)
		for range 8 {
			from := one(random, 1900, api.MinYear, api.MaxYear-20, -4, 1968, 2000) + random.Intn(10)
			to := min(from+one(random, 0, 1, 5, 20, 3999), api.MaxYear)
			years := api.Span{From: begin(from), To: begin(to + 1)}
			want := aparts(ofA, ofB, years)
			compareApart(t, table, a, b, from, to, want, api.OK)
			m, _ := mean.Mean(want, years)
			compareMean(t, table, a, b, from, to, m, api.OK)
			compareAround(t, table, a, b, from, to, want)
			compareApart(t, table, a, a, from, to, []api.Part{{Span: years}}, api.OK)
			parts += len(want) - 1
			edges := both(begun(ofA, years), begun(ofB, years))
			merged += len(slices.DeleteFunc(edges, func(at int64) bool { return at <= years.From || at >= years.To })) - len(want) + 1
		}
	}
	if parts < 1000 || merged < 1000 {
		t.Errorf("%d parts, %d merged", parts, merged)
	}
}

// begun are those of l that begin in a span.
func begun(l []api.Info, s api.Span) []api.Info {
	return slices.DeleteFunc(slices.Clone(l), func(i api.Info) bool { return i.Span.From < s.From || i.Span.From >= s.To })
}

// compareAround asks the other way round.
func compareAround(t *testing.T, table api.Table, a, b, from, to int, l []api.Part) {
	t.Helper()
	var want []api.Part
	for _, p := range l {
		want = append(want, api.Part{Span: p.Span, Val: -p.Val})
	}
	compareApart(t, table, b, a, from, to, want, api.OK)
}

// Promise 48.2: that there are not both zones is told ahead of years that may not be.
func TestApartErrors(t *testing.T) {
	table := sample.Two()
	wrong := [][2]int{{5, 4}, {0, 4000}, {-32768, -32768}, {32767, 32768}, {math.MinInt, math.MaxInt}, {math.MaxInt, math.MinInt}}
	for _, years := range append(wrong, [2]int{2000, 2000}, [2]int{0, 3999}) {
		for _, zone := range append(slices.Clone(far), 2) {
			for _, pair := range [][2]int{{zone, 0}, {1, zone}, {zone, zone}} {
				compareApart(t, table, pair[0], pair[1], years[0], years[1], nil, api.ErrNone)
				compareMean(t, table, pair[0], pair[1], years[0], years[1], 0, api.ErrNone)
			}
		}
	}
	for _, years := range wrong {
		compareApart(t, table, 0, 1, years[0], years[1], nil, api.ErrRange)
		compareMean(t, table, 0, 1, years[0], years[1], 0, api.ErrRange)
	}
}

// Promise 48.2: what is known, as many years as may be, and both ends of all, too.
func TestApartKnown(t *testing.T) {
	table := known()
	summer := []api.Part{
		{Span: api.Span{From: 1704067200, To: 1710054000}, Val: hour}, {Span: api.Span{From: 1710054000, To: 1730613600}}, {Span: api.Span{From: 1730613600, To: 1735689600}, Val: hour},
	}
	compareApart(t, table, 4, 1, 2024, 2024, summer, api.OK)
	compareMean(t, table, 4, 1, 2024, 2024, float64(hour*(366*day-20559600))/(366*day), api.OK)
	whole := func(from, to int) api.Span { return api.Span{From: begin(from), To: begin(to + 1)} }
	compareApart(t, table, 1, 2, 2007, 6006, []api.Part{{Span: whole(2007, 6006)}}, api.OK)
	compareMean(t, table, 1, 2, 2007, 6006, 0, api.OK)
	compareApart(t, table, 0, 3, 1949, 1950, []api.Part{{Span: api.Span{From: begin(1949), To: -631155600}, Val: 5 * hour}, {Span: api.Span{From: -631155600, To: begin(1951)}, Val: 6 * hour}}, api.OK)
	compareApart(t, table, 3, 0, -32767, -32767, []api.Part{{Span: api.Span{From: minT, To: begin(-32766)}, Val: -5 * hour}}, api.OK)
	compareApart(t, table, 4, 0, 32767, 32767, []api.Part{{Span: api.Span{From: begin(32767), To: maxT + 1}, Val: -6 * hour}}, api.OK)
	if l, why := meet.Apart(table, 1, 4, 2007, 6006); len(l) != 8001 || why != api.OK {
		t.Error(len(l), why)
	}
}

// Promise 48.3: any tables that fit, any seconds; the other way round it is the same.
func TestNext(t *testing.T) {
	random := rand.New(rand.NewSource(483))
	is := map[bool]int{}
	for range 500 {
		table, a, b := pairs(random)
		ofA, ofB := sample.Infos(table, a), sample.Infos(table, b)
		for _, at := range someTimes(random, both(ofA, ofB)) {
			want, ok := next(ofA, ofB, at)
			is[ok]++
			compareNext(t, table, a, b, at, want, ok)
			compareNext(t, table, b, a, at, want, ok)
		}
	}
	if is[true] < 5000 || is[false] < 5000 {
		t.Error(is)
	}
}

// Promise 48.3: what is known: at a change, a second ahead of it, and at both ends; zones and seconds that may not be.
func TestNextKnown(t *testing.T) {
	table := known()
	const turn, first = -631155600, 1173596400
	// The first Sunday of November of the last year.
	lastTurn := time.Date(32767, 11, 1, 6, 0, 0, 0, time.UTC).Unix()
	for time.Unix(lastTurn, 0).UTC().Weekday() != time.Sunday {
		lastTurn += day
	}
	tests := []struct {
		a, b int
		at   int64
		want int64
		is   bool
	}{
		{0, 3, minT, turn, true}, {0, 3, turn - 1, turn, true}, {0, 3, turn, 0, false}, {0, 3, maxT, 0, false}, {0, 3, minT - 1, 0, false}, {0, 3, math.MinInt64, 0, false},
		{0, 3, maxT + 1, 0, false}, {0, 3, math.MaxInt64, 0, false}, {3, 4, minT, 0, false}, {3, 4, 0, 0, false},
		{1, 4, minT, first, true}, {1, 4, first - 1, first, true}, {1, 4, first, 1194156000, true}, {4, 1, 1719792000, 1730613600, true},
		{0, 1, minT, turn, true}, {0, 1, turn, first, true}, {1, 2, maxT - 10*366*day, 0, false}, {1, 4, lastTurn - 1, lastTurn, true}, {1, 4, lastTurn, 0, false},
	}
	for _, x := range tests {
		compareNext(t, table, x.a, x.b, x.at, x.want, x.is)
	}
	for _, zone := range append(slices.Clone(far), 5) {
		for _, at := range []int64{math.MinInt64, minT, 0, maxT, math.MaxInt64} {
			compareNext(t, table, zone, 0, at, 0, false)
			compareNext(t, table, 4, zone, at, 0, false)
			compareNext(t, table, zone, zone, at, 0, false)
		}
	}
	compareNext(t, api.Table{}, 0, 0, 0, 0, false)
}

// Promises 48.1 to 48.3: what holds in the first second alone, and in the last one.
func TestOneSecond(t *testing.T) {
	rules := []api.Rule{
		{Name: "A", From: api.MinYear, To: api.MinYear, Month: 1, On: api.On{Day: 1}, At: api.At{Sec: 1, Base: api.AtUtc}, Save: -hour},
		{Name: "A", From: api.MaxYear, To: api.MaxYear, Month: 12, On: api.On{Day: 31}, At: api.At{Sec: day - 1, Base: api.AtUtc}},
	}
	eras := []api.Era{{Kind: api.RulesNamed, Rules: "A", Format: "X"}, {Format: "X"}}
	table := api.Table{Rules: rules, Zones: []api.Zone{{Name: "A", Eras: eras[:1]}, {Name: "B", Eras: eras[1:]}}}
	if why := load.Table(table); why != api.OK {
		t.Fatal(why)
	}
	compareNext(t, table, 0, 1, minT, minT+1, true)
	compareNext(t, table, 0, 1, minT+1, maxT, true)
	compareNext(t, table, 1, 0, maxT-1, maxT, true)
	compareNext(t, table, 0, 1, maxT, 0, false)
	for _, x := range []struct{ s, want api.Span }{{api.Span{From: minT - 9, To: minT + 9}, api.Span{From: minT, To: minT + 1}}, {api.Span{From: maxT - 9, To: maxT + 9}, api.Span{From: maxT, To: maxT + 1}}} {
		for by, want := range map[int][]api.Span{1: {x.want}, 2: {x.want}, 3: {{From: max(x.s.From, minT), To: min(x.s.To, maxT+1)}}, 4: {x.want}} {
			compareAlike(t, table, 0, 1, x.s, by, 9, want, api.OK)
		}
	}
	first, last := api.Span{From: minT, To: begin(-32766)}, api.Span{From: begin(32767), To: maxT + 1}
	compareApart(t, table, 0, 1, -32767, -32767, []api.Part{{Span: api.Span{From: minT, To: minT + 1}}, {Span: api.Span{From: minT + 1, To: first.To}, Val: -hour}}, api.OK)
	compareApart(t, table, 1, 0, 32767, 32767, []api.Part{{Span: api.Span{From: last.From, To: maxT}, Val: hour}, {Span: api.Span{From: maxT, To: maxT + 1}}}, api.OK)
}

// Promises 48.3 and 48.5: to itself a zone is the same for good, however often something changes in it.
func TestNextOfItself(t *testing.T) {
	compareNext(t, sample.Two(), 1, 1, 0, 0, false)
	compareNext(t, sample.Two(), 0, 0, minT, 0, false)
}

// Rules: what is handed in is not changed, and what is answered is new.
func TestNothingShared(t *testing.T) {
	table := known()
	years, _ := window.Years(2000, 2030)
	l, _ := meet.Alike(table, 1, 3, years, 4, 99)
	parts, _ := meet.Apart(table, 1, 3, 2000, 2030)
	for _, x := range [][]int{{1, 3}, {0, 1}} {
		meet.Mean(table, x[0], x[1], 2000, 2030)
		meet.Next(table, x[0], x[1], 0)
	}
	again, partsAgain := slices.Clone(l), slices.Clone(parts)
	clear(l)
	clear(parts)
	if m, _ := meet.Alike(table, 1, 3, years, 4, 99); !slices.Equal(m, again) {
		t.Error(m)
	}
	if p, _ := meet.Apart(table, 1, 3, 2000, 2030); !slices.Equal(p, partsAgain) {
		t.Error(p)
	}
	if !reflect.DeepEqual(table, known()) {
		t.Error("the table is changed")
	}
}

// Of a table that does not fit there is an answer, whatever it is; but beside an error there is nothing.
func TestTablesThatDoNotFit(t *testing.T) {
	for _, table := range sample.Unfit() {
		table.Zones = append(table.Zones, sample.Two().Zones...)
		for zone := range table.Zones {
			for _, at := range append(sample.Far(), -631152000, 1893456000) {
				if got, ok := meet.Next(table, 0, zone, at); !ok && got != 0 {
					t.Errorf("Next of %v at %d: %d", table, at, got)
				}
			}
			for _, years := range [][2]int{{-32767, -28768}, {1900, 2110}, {28768, 32767}} {
				s, _ := window.Years(years[0], years[1])
				for by := 1; by <= 4; by++ {
					if l, why := meet.Alike(table, zone, 0, s, by, 5); why != api.OK && len(l) > 0 {
						t.Errorf("Alike of %v in %v: %v, %d", table, s, l, why)
					}
				}
				if l, why := meet.Apart(table, 0, zone, years[0], years[1]); why != api.OK && len(l) > 0 {
					t.Errorf("Apart of %v in %v: %v, %d", table, s, l, why)
				}
				if m, why := meet.Mean(table, zone, 0, years[0], years[1]); why != api.OK && math.Float64bits(m) != 0 {
					t.Errorf("Mean of %v in %v: %v, %d", table, s, m, why)
				}
			}
		}
	}
}

// The example.
func TestExample(t *testing.T) {
	table, fault := load.Source("Zone A 1:00 - X\nZone B 2:00 - X")
	if fault != (api.Fault{}) {
		t.Fatal(fault)
	}
	years, _ := window.Years(1990, 2020)
	compareApart(t, table, 0, 1, 1990, 2020, []api.Part{{Span: years, Val: -3600}}, api.OK)
	compareAlike(t, table, 0, 1, years, 1, 5, nil, api.OK)
	compareMean(t, table, 0, 1, 1990, 2020, -3600, api.OK)
}
