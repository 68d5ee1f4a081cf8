package window_test

import (
	"math"
	"math/rand"
	"reflect"
	"slices"
	"testing"
	"time"

	"noontide/api"
	"noontide/load"
	"noontide/point"
	"noontide/sample"
	"noontide/window"
)

const (
	hour = 3600
	day  = 86400
	minT = -1096193779200
	maxT = 971890963199
	wide = 4000
)

// in are those of l that have a second of a span.
func in(l []api.Info, s api.Span) []api.Info {
	return slices.DeleteFunc(slices.Clone(l), func(i api.Info) bool { return s.From >= s.To || i.Span.To <= s.From || i.Span.From >= s.To })
}

// seconds are where infos begin and end, those around these, and far ones.
func seconds(l []api.Info) []int64 {
	times := append(sample.Far(), math.MinInt64, math.MaxInt64)
	for _, i := range l {
		times = append(times, i.Span.From-1, i.Span.From, i.Span.From+1, i.Span.From+(i.Span.To-i.Span.From)/2)
	}
	return times
}

// begin is the first second of a year.
func begin(year int) int64 {
	return time.Date(year, 1, 1, 0, 0, 0, 0, time.UTC).Unix()
}

func compareIn(t *testing.T, table api.Table, zone int, l []api.Info, s api.Span, most int) {
	t.Helper()
	want, whyNot := in(l, s), api.OK
	switch {
	case zone < 0 || zone >= len(table.Zones):
		want, whyNot = nil, api.ErrNone
	case s.From >= s.To || most < 1:
		want, whyNot = nil, api.ErrRange
	case len(want) > most:
		want = want[:most]
	}
	if got, why := window.In(table, zone, s, most); !slices.Equal(got, want) || why != whyNot {
		t.Fatalf("In of %d in %v, %v, %d: %v, %d; not %v, %d", zone, table, s, most, got, why, want, whyNot)
	}
}

// Promise 37.1: any tables that fit, spans whose ends are at, ahead of and behind those of infos, or far from them; and zones, spans and numbers that may not be, alone and together.
func TestIn(t *testing.T) {
	random := rand.New(rand.NewSource(37))
	for range 300 {
		table := sample.Table(random.Intn)
		for _, zone := range []int{math.MinInt, -1, len(table.Zones), math.MaxInt, 0, random.Intn(len(table.Zones))} {
			var l []api.Info
			if zone >= 0 && zone < len(table.Zones) {
				l = sample.Infos(table, zone)
			}
			times := seconds(l)
			for range 40 {
				s := api.Span{From: times[random.Intn(len(times))], To: times[random.Intn(len(times))]}
				for _, most := range []int{math.MinInt, -1, 0, 1, 2, len(in(l, s)) - 1, len(in(l, s)), math.MaxInt} {
					compareIn(t, table, zone, l, s, most)
				}
			}
			compareIn(t, table, zone, l, api.Span{From: math.MinInt64, To: math.MaxInt64}, math.MaxInt)
		}
	}
}

// Promise 37.1: spans that meet no info, or the first and the last second alone, are no error.
func TestInEnds(t *testing.T) {
	tests := []struct {
		s    api.Span
		want int
	}{
		{api.Span{From: math.MinInt64, To: math.MinInt64 + 1}, 0},
		{api.Span{From: math.MinInt64, To: minT}, 0},
		{api.Span{From: math.MinInt64, To: minT + 1}, 1},
		{api.Span{From: minT, To: minT + 1}, 1},
		{api.Span{From: maxT, To: maxT + 1}, 1},
		{api.Span{From: maxT, To: math.MaxInt64}, 1},
		{api.Span{From: maxT + 1, To: math.MaxInt64}, 0},
		{api.Span{From: math.MaxInt64 - 1, To: math.MaxInt64}, 0},
		{api.Span{From: math.MinInt64, To: math.MaxInt64}, 2},
		{api.Span{From: -631155601, To: -631155600}, 1},
		{api.Span{From: -631155601, To: -631155599}, 2},
		{api.Span{From: -631155600, To: -631155599}, 1},
	}
	for _, x := range tests {
		if l, why := window.In(sample.Two(), 0, x.s, 9); len(l) != x.want || why != api.OK {
			t.Errorf("In of %v: %v, %d", x.s, l, why)
		}
	}
}

// Promise 37.1: infos of the first second alone, and of the last one.
func TestInOneSecond(t *testing.T) {
	rules := []api.Rule{
		{Name: "A", From: api.MinYear, To: api.MinYear, Month: 1, On: api.On{Day: 1}, At: api.At{Sec: 1, Base: api.AtUtc}, Save: -hour},
		{Name: "A", From: api.MaxYear, To: api.MaxYear, Month: 12, On: api.On{Day: 31}, At: api.At{Sec: day - 1, Base: api.AtUtc}, Save: hour},
	}
	table := api.Table{Rules: rules, Zones: []api.Zone{{Name: "Z", Eras: []api.Era{{Kind: api.RulesNamed, Rules: "A", Format: "%z"}}}}}
	if why := load.Table(table); why != api.OK {
		t.Fatal(why)
	}
	l := sample.Infos(table, 0)
	if len(l) != 3 || l[0].Span.To != minT+1 || l[2].Span.From != maxT {
		t.Fatal(l)
	}
	ends := []int64{math.MinInt64, minT - 1, minT, minT + 1, minT + 2, 0, maxT - 1, maxT, maxT + 1, maxT + 2, math.MaxInt64}
	for _, from := range ends {
		for _, to := range ends {
			for most := range 5 {
				compareIn(t, table, 0, l, api.Span{From: from, To: to}, most)
			}
		}
	}
}

// Promise 37.1: as many as there are in all years.
func TestInMany(t *testing.T) {
	const many = 2*(32767-2007+1) + 1
	l, why := window.In(sample.Two(), 1, api.Span{From: minT, To: maxT + 1}, math.MaxInt)
	if len(l) != many || why != api.OK {
		t.Errorf("%d infos, %d", len(l), why)
	}
	compareAll(t, l, api.Span{From: minT, To: maxT + 1})
}

// Promise 37.4: one behind the other, they have all seconds of the span.
func TestAll(t *testing.T) {
	random := rand.New(rand.NewSource(374))
	for range 500 {
		table := sample.Table(random.Intn)
		for zone := range table.Zones {
			times := seconds(sample.Infos(table, zone))
			for range 20 {
				s := api.Span{From: times[random.Intn(len(times))], To: times[random.Intn(len(times))]}
				if l, why := window.In(table, zone, s, math.MaxInt); why == api.OK {
					compareAll(t, l, s)
				}
			}
		}
	}
}

func compareAll(t *testing.T, l []api.Info, s api.Span) {
	t.Helper()
	s.From, s.To = max(s.From, minT), min(s.To, maxT+1)
	switch {
	case s.From >= s.To:
		if len(l) > 0 {
			t.Fatalf("in %v are %v", s, l)
		}
		return
	case len(l) == 0 || l[0].Span.From > s.From || l[0].Span.To <= s.From || l[len(l)-1].Span.To < s.To || l[len(l)-1].Span.From >= s.To:
		t.Fatalf("in %v are %v", s, l)
	}
	for i := range l[1:] {
		if l[i].Span.To != l[i+1].Span.From {
			t.Fatalf("behind %v comes %v", l[i], l[i+1])
		}
	}
}

// Promise 37.2: years at, and beyond, the ends of those that may be, and as many as may be, or more.
func TestYears(t *testing.T) {
	ends := []int{math.MinInt, -40001, -32768, -32767, -32766, -28769, -28768, -28767, -4001, -4000, -3999, -1, 0, 1, 4, 1969, 1970, 1971, 3999, 4000, 4001, 28767, 28768, 28769, 32766, 32767, 32768, 40001, math.MaxInt}
	for _, from := range ends {
		for _, to := range ends {
			var want api.Span
			whyNot := api.ErrRange
			if from >= -32767 && to <= 32767 && from <= to && to < from+wide {
				want, whyNot = api.Span{From: begin(from), To: begin(to + 1)}, api.OK
			}
			if got, why := window.Years(from, to); got != want || why != whyNot {
				t.Errorf("Years of %d, %d: %v, %d; not %v, %d", from, to, got, why, want, whyNot)
			}
		}
	}
	for year := -32767; year <= 32767; year++ {
		if s, why := window.Years(year, year); s != (api.Span{From: begin(year), To: begin(year + 1)}) || why != api.OK {
			t.Errorf("Years of %d: %v, %d", year, s, why)
		}
	}
}

// Promise 37.2: the first and the last second of all that have a stamp.
func TestYearsEnds(t *testing.T) {
	first, _ := window.Years(-32767, -32767)
	last, _ := window.Years(32767, 32767)
	if first.From != minT || last.To != maxT+1 {
		t.Error(first, last)
	}
}

// Promise 37.2: of any infos, in the order in which they stand.
func TestParts(t *testing.T) {
	l := []api.Info{
		{Span: api.Span{From: 5, To: 9}, Value: api.Value{Off: -hour, Save: 7, Abbr: "X"}},
		{Span: api.Span{From: 9, To: 9}, Value: api.Value{Save: 7}},
		{Span: api.Span{From: math.MaxInt64, To: math.MinInt64}, Value: api.Value{Off: math.MaxInt64}},
		{Span: api.Span{From: 5, To: 9}, Value: api.Value{Off: math.MinInt64}},
		{},
	}
	want := []api.Part{
		{Span: api.Span{From: 5, To: 9}, Val: -hour},
		{Span: api.Span{From: 9, To: 9}},
		{Span: api.Span{From: math.MaxInt64, To: math.MinInt64}, Val: math.MaxInt64},
		{Span: api.Span{From: 5, To: 9}, Val: math.MinInt64},
		{},
	}
	for n := range len(l) + 1 {
		if got := window.Parts(l[:n]); !slices.Equal(got, want[:n]) {
			t.Errorf("Parts of %v: %v; not %v", l[:n], got, want[:n])
		}
	}
	if got := window.Parts(nil); len(got) != 0 {
		t.Error(got)
	}
}

// meanOf goes along the infos step by step.
func meanOf(l []api.Info, s api.Span) float64 {
	var total, sum float64
	for _, i := range in(l, s) {
		long := float64(min(i.Span.To, s.To) - max(i.Span.From, s.From))
		total += long
		sum += float64(float64(i.Value.Off) * long)
	}
	return sum / total
}

// savingOf goes along the infos: what touches is one.
func savingOf(l []api.Info, s api.Span) []api.Span {
	var set []api.Span
	for _, i := range in(l, s) {
		from, to := max(i.Span.From, s.From), min(i.Span.To, s.To)
		last := len(set) - 1
		switch {
		case i.Value.Save == 0:
		case last >= 0 && set[last].To == from:
			set[last].To = to
		default:
			set = append(set, api.Span{From: from, To: to})
		}
	}
	return set
}

// someYears are years in which something changes, and some around and far from these; and such as may not be.
func someYears(random *rand.Rand, l []api.Info) (from, to int) {
	t := l[random.Intn(len(l))].Span.From
	year := time.Unix(t, 0).UTC().Year() + random.Intn(5) - 2
	switch random.Intn(8) {
	case 0:
		return year - random.Intn(wide+2), year
	case 1:
		return year, year + random.Intn(wide+2)
	case 2:
		return year, year - 1
	}
	return year, year + random.Intn(4)
}

// Promises 37.3 and 37.5: any tables that fit, and years in which something changes, or nothing.
func TestMeanAndSaving(t *testing.T) {
	random := rand.New(rand.NewSource(373))
	saving, touching := 0, 0
	for range 1000 {
		table := sample.Table(random.Intn)
		kept := clone(table)
		for zone := range table.Zones {
			l := sample.Infos(table, zone)
			for range 10 {
				from, to := someYears(random, l)
				s, why := window.Years(from, to)
				if why != api.OK {
					compareWrong(t, table, zone, from, to, api.ErrRange)
					continue
				}
				if m, why := window.Mean(table, zone, from, to); m != meanOf(l, s) || why != api.OK {
					t.Fatalf("Mean of %d in %v, %d to %d: %v, %d; not %v", zone, table, from, to, m, why, meanOf(l, s))
				}
				want := savingOf(l, s)
				set, why := window.Saving(table, zone, from, to)
				if !slices.Equal(set, want) || why != api.OK {
					t.Fatalf("Saving of %d in %v, %d to %d: %v, %d; not %v", zone, table, from, to, set, why, want)
				}
				compareSeconds(t, random, table, zone, s, set)
				saving += len(set)
				touching += len(slices.DeleteFunc(in(l, s), func(i api.Info) bool { return i.Value.Save == 0 })) - len(set)
			}
		}
		if !reflect.DeepEqual(table, kept) {
			t.Fatal("the table is changed")
		}
	}
	if saving < 5000 || touching < 500 {
		t.Errorf("%d spans, and %d infos that touch another one", saving, touching)
	}
}

// compareSeconds asks at the edges of a set in a span, and between.
func compareSeconds(t *testing.T, random *rand.Rand, table api.Table, zone int, s api.Span, set []api.Span) {
	t.Helper()
	times := []int64{s.From, s.To - 1, s.From + random.Int63n(s.To-s.From)}
	for _, x := range set {
		times = append(times, x.From-1, x.From, x.To-1, x.To)
	}
	for _, at := range times {
		v, _ := point.Value(table, zone, at)
		is := slices.ContainsFunc(set, func(x api.Span) bool { return x.From <= at && at < x.To })
		want := v.Save != 0 && s.From <= at && at < s.To
		if is != want {
			t.Fatalf("at %d holds %v; the set is %v", at, v, set)
		}
	}
}

func clone(t api.Table) api.Table {
	c := api.Table{Rules: slices.Clone(t.Rules), Zones: slices.Clone(t.Zones), Links: slices.Clone(t.Links)}
	for i := range c.Zones {
		c.Zones[i].Eras = slices.Clone(c.Zones[i].Eras)
	}
	return c
}

func compareWrong(t *testing.T, table api.Table, zone, from, to int, whyNot api.Errno) {
	t.Helper()
	m, why := window.Mean(table, zone, from, to)
	if math.Float64bits(m) != 0 || why != whyNot {
		t.Errorf("Mean of %d, %d to %d: %v, %d; not %d", zone, from, to, m, why, whyNot)
	}
	set, why := window.Saving(table, zone, from, to)
	if len(set) != 0 || why != whyNot {
		t.Errorf("Saving of %d, %d to %d: %v, %d; not %d", zone, from, to, set, why, whyNot)
	}
}

// Promise 37.3: that there is no such zone is told ahead of years that may not be.
func TestWrong(t *testing.T) {
	for _, zone := range []int{math.MinInt, -1, 2, math.MaxInt} {
		for _, years := range [][2]int{{2000, 2000}, {5, 4}, {0, 4000}, {-32768, 0}, {32768, 32768}, {math.MinInt, math.MaxInt}} {
			compareWrong(t, sample.Two(), zone, years[0], years[1], api.ErrNone)
		}
	}
	for _, years := range [][2]int{{5, 4}, {0, 4000}, {-32768, -32768}, {32767, 32768}, {math.MinInt, math.MaxInt}, {math.MaxInt, math.MinInt}} {
		compareWrong(t, sample.Two(), 1, years[0], years[1], api.ErrRange)
	}
}

// Promise 37.3: what is known: a year in which all is one, two in which the offset changes, such as begin in summer, and those at both ends.
func TestKnown(t *testing.T) {
	rules := []api.Rule{
		{Name: "A", From: 2000, To: 2000, Month: 12, On: api.On{Day: 31}, At: api.At{Base: api.AtUtc}, Save: hour},
		{Name: "A", From: 2001, To: 2001, Month: 1, On: api.On{Day: 11}, At: api.At{Base: api.AtUtc}, Save: 2 * hour},
		{Name: "A", From: 2001, To: 2001, Month: 1, On: api.On{Day: 21}, At: api.At{Base: api.AtUtc}},
		{Name: "A", From: 2001, To: 2001, Month: 2, On: api.On{Day: 1}, At: api.At{Base: api.AtUtc}, Save: -hour},
		{Name: "A", From: 2001, To: 2001, Month: 2, On: api.On{Day: 11}, At: api.At{Base: api.AtUtc}},
	}
	table := sample.Two()
	table.Rules = append(table.Rules, rules...)
	table.Zones = append(table.Zones, api.Zone{Name: "S", Eras: []api.Era{{Off: hour, Kind: api.RulesNamed, Rules: "A", Format: "%z"}}})
	if why := load.Table(table); why != api.OK {
		t.Fatal(why)
	}
	tests := []struct {
		zone, from, to int
		mean           float64
		saving         []api.Span
	}{
		{0, 2000, 2000, 7200, nil},
		{0, 1900, 1949, (3600*(18262*day-hour) + 7200*hour) / (18262.0 * day), nil},
		{0, 1949, 1950, (3600*(365*day-hour) + 7200*(365*day+hour)) / (730.0 * day), nil},
		{0, -32767, -28768, 3600, nil},
		{0, 28768, 32767, 7200, nil},
		{1, 2000, 2006, -18000, nil},
		{1, 2023, 2023, (-18000*(127*day+hour) - 14400*(238*day-hour)) / (365.0 * day), []api.Span{{From: 1678604400, To: 1699164000}}},
		{2, 1999, 1999, 3600, nil},
		{2, 2000, 2000, (3600*365*day + 7200*day) / (366.0 * day), []api.Span{{From: 978220800, To: 978307200}}},
		{2, 2001, 2001, (7200*10 + 10800*10 + 3600*335) / 365.0, []api.Span{{From: 978307200, To: 980035200}, {From: 980985600, To: 981849600}}},
		{2, 2000, 2001, (3600*(366+335-1) + 7200*11 + 10800*10) / 731.0, []api.Span{{From: 978220800, To: 980035200}, {From: 980985600, To: 981849600}}},
		{2, 2002, 2002, 3600, nil},
	}
	for _, x := range tests {
		if m, why := window.Mean(table, x.zone, x.from, x.to); math.Abs(m-x.mean) > 1e-9 || why != api.OK {
			t.Errorf("Mean of %d, %d to %d: %v, %d; not %v", x.zone, x.from, x.to, m, why, x.mean)
		}
		if set, why := window.Saving(table, x.zone, x.from, x.to); !slices.Equal(set, x.saving) || why != api.OK {
			t.Errorf("Saving of %d, %d to %d: %v, %d; not %v", x.zone, x.from, x.to, set, why, x.saving)
		}
	}
}

// Promise 37.3: as many years as there may be.
func TestWide(t *testing.T) {
	l := sample.Infos(sample.Two(), 1)
	s := api.Span{From: begin(2007), To: begin(6007)}
	if m, why := window.Mean(sample.Two(), 1, 2007, 6006); m != meanOf(l, s) || why != api.OK {
		t.Error(m, why)
	}
	if set, why := window.Saving(sample.Two(), 1, 2007, 6006); len(set) != wide || why != api.OK {
		t.Error(len(set), why)
	}
}

// Of a table that does not fit there is an answer, whatever it is; but of a zone that is not there, in a span that may not be, or of years that may not be, there is none.
func TestTablesThatDoNotFit(t *testing.T) {
	for _, table := range sample.Unfit() {
		for _, from := range append(sample.Far(), math.MinInt64, -631152000, 1893456000) {
			for _, most := range []int{1, 100, math.MaxInt} {
				if l, why := window.In(table, 0, api.Span{From: from, To: math.MaxInt64}, most); len(l) > most || why != api.OK && len(l) > 0 {
					t.Errorf("from %d: %v, %d", from, l, why)
				}
			}
		}
		window.Mean(table, 0, 1900, 2100)
		window.Saving(table, 0, 1900, 2100)
		compareIn(t, table, 1, nil, api.Span{To: 9}, 9)
		compareIn(t, table, 0, nil, api.Span{}, 9)
		compareWrong(t, table, 1, 5, 4, api.ErrNone)
		compareWrong(t, table, 0, 5, 4, api.ErrRange)
	}
}

// The example.
func TestExample(t *testing.T) {
	s, _ := window.Years(2023, 2023)
	l, why := window.In(sample.Two(), 1, s, 9)
	if len(l) != 3 || why != api.OK || l[0].Value.Abbr != "EST" || l[1].Value.Abbr != "EDT" || l[2].Value.Abbr != "EST" {
		t.Error(l, why)
	}
	set, why := window.Saving(sample.Two(), 1, 2023, 2023)
	if len(set) != 1 || why != api.OK || set[0].To-set[0].From != 238*day-hour {
		t.Error(set, why)
	}
}
