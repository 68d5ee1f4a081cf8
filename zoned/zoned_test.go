package zoned_test

import (
	"fmt"
	"math"
	"math/rand"
	"testing"
	"time"

	"noontide/api"
	"noontide/load"
	"noontide/local"
	"noontide/point"
	"noontide/policy"
	"noontide/sample"
	"noontide/zoned"
)

const (
	hour    = 3600
	day     = 86400
	minT    = -1096193779200
	maxT    = 971890963199
	first   = minT + 172800
	last    = maxT - 172800
	mostAdd = 1 << 50

	mostYear = 40000 // of a date that may be
)

// said is a second, or why there is none.
type said struct {
	at  int64
	why api.Errno
}

// moved is the local time l, its date moved, by Go's calendar.
func moved(l, n int64, unit int) (int64, bool) {
	s := time.Unix(l, 0).UTC()
	second := int64(s.Hour()*hour + s.Minute()*60 + s.Second())
	if unit == api.UnitDays {
		if n < -mostAdd/day || n > mostAdd/day {
			return 0, false
		}
		return l + n*day, true
	}
	if unit == api.UnitYears {
		n *= 12
	}
	months := int64(s.Year())*12 + int64(s.Month()) - 1 + n
	if months < -mostYear*12 || months > mostYear*12+11 {
		return 0, false
	}
	// Of day 0 of the month behind the last day of the month is told.
	most := time.Date(0, time.Month(months+2), 0, 0, 0, 0, 0, time.UTC).Day()
	return time.Date(0, time.Month(months+1), min(s.Day(), most), 0, 0, 0, 0, time.UTC).Unix() + second, true
}

// add is what Add must answer, by the words.
func add(table api.Table, zone int, at, n int64, unit, how int) said {
	v, why := point.Value(table, zone, at)
	switch {
	case unit < 1 || unit > 4 || how < 1 || how > 3:
		return said{why: api.ErrForm}
	case why != api.OK:
		return said{why: why}
	case n < -mostAdd || n > mostAdd:
		return said{why: api.ErrRange}
	case unit == api.UnitSecs && (at+n < minT || at+n > maxT):
		return said{why: api.ErrRange}
	case unit == api.UnitSecs:
		return said{at: at + n}
	}
	l, ok := moved(at+v.Off, n, unit)
	if !ok {
		return said{why: api.ErrRange}
	}
	to, why := policy.To(table, zone, l, how)
	return said{to, why}
}

// some are seconds of a zone: at, and around, where something begins to hold, near both ends, and far ones.
func some(random *rand.Rand, table api.Table, zone int) []int64 {
	times := append(sample.Far(), math.MinInt64, math.MaxInt64, first, last, minT+random.Int63n(4*day), maxT-random.Int63n(4*day))
	for _, i := range sample.Infos(table, zone) {
		times = append(times, i.Span.From-1, i.Span.From, i.Span.From+random.Int63n(2*day)-day, i.Span.From+random.Int63n(900*day))
	}
	return times
}

// one is one of l.
func one[T any](random *rand.Rand, l ...T) T {
	return l[random.Intn(len(l))]
}

// many is a number of units, small, or far, or at the end of those that may be.
func many(random *rand.Rand) int64 {
	return one(random, 0, 1, -1, int64(random.Intn(40)-20), int64(random.Intn(4000)-2000), random.Int63n(4000000)-2000000, random.Int63n(4e12)-2e12,
		mostAdd, -mostAdd, mostAdd+1, -mostAdd-1, math.MaxInt64, math.MinInt64)
}

func compareAdd(t *testing.T, table api.Table, zone int, at, n int64, unit, how int, want said) {
	t.Helper()
	if got, why := zoned.Add(table, zone, at, n, unit, how); (said{got, why}) != want {
		t.Fatalf("Add of %d in %v at %d, %d of %d by %d: %d, %d; not %v", zone, table, at, n, unit, how, got, why, want)
	}
}

func compareMidnight(t *testing.T, table api.Table, zone int, at int64, want said) {
	t.Helper()
	if got, why := zoned.Midnight(table, zone, at); (said{got, why}) != want {
		t.Fatalf("Midnight of %d in %v at %d: %d, %d; not %v", zone, table, at, got, why, want)
	}
}

func compareText(t *testing.T, table api.Table, zone int, at int64, want string, whyNot api.Errno) {
	t.Helper()
	if got, why := zoned.Text(table, zone, at); got != want || why != whyNot {
		t.Fatalf("Text of %d in %v at %d: %q, %d; not %q, %d", zone, table, at, got, why, want, whyNot)
	}
}

// Promise 43.1: any tables that fit, any seconds, any numbers of any units, by any policy.
func TestAdd(t *testing.T) {
	random := rand.New(rand.NewSource(43))
	count := map[api.Errno]int{}
	for range 120 {
		table := sample.Table(random.Intn)
		for zone := range table.Zones {
			for _, at := range some(random, table, zone) {
				for range 6 {
					n, unit, how := many(random), 1+random.Intn(4), 1+random.Intn(3)
					want := add(table, zone, at, n, unit, how)
					count[want.why]++
					compareAdd(t, table, zone, at, n, unit, how, want)
				}
			}
		}
	}
	for _, why := range []api.Errno{api.OK, api.ErrRange, api.ErrTwo} {
		if count[why] < 50 {
			t.Errorf("%d comes %d times", why, count[why])
		}
	}
}

// Promise 43.1: by days, months and years into, and out of, gaps and times that come twice, by each policy.
func TestAddAroundChanges(t *testing.T) {
	random := rand.New(rand.NewSource(431))
	count := map[api.Errno]int{}
	for range 200 {
		table := sample.Table(random.Intn)
		for zone := range table.Zones {
			for _, i := range sample.Infos(table, zone) {
				unit, n := 1+random.Intn(3), int64(random.Intn(30)-15)
				l, ok := moved(i.Span.From+i.Value.Off+random.Int63n(4*hour)-2*hour, n, unit)
				for how := api.PolicyEarly; ok && how <= api.PolicyReject; how++ {
					at, why := policy.To(table, zone, l, api.PolicyEarly)
					if why != api.OK {
						continue
					}
					want := add(table, zone, at, -n, unit, how)
					count[want.why]++
					compareAdd(t, table, zone, at, -n, unit, how, want)
				}
			}
		}
	}
	for _, why := range []api.Errno{api.OK, api.ErrGap, api.ErrTwo} {
		if count[why] < 100 {
			t.Errorf("%d comes %d times", why, count[why])
		}
	}
}

// Promise 43.1: what is known: ends of months, days of leap years, gaps and times that come twice.
func TestAddKnown(t *testing.T) {
	at := func(year, month, day, hour, min int) int64 {
		return time.Date(year, time.Month(month), day, hour, min, 0, 0, time.UTC).Unix()
	}
	const west = 5 * hour
	tests := []struct {
		at   int64
		n    int64
		unit int
		how  int
		want said
	}{
		{at(2023, 1, 31, 9, 0) + west, 1, api.UnitMonths, 3, said{at: at(2023, 2, 28, 9, 0) + west}},
		{at(2023, 1, 31, 9, 0) + west, 2, api.UnitMonths, 3, said{at: at(2023, 3, 31, 9, 0) + west - hour}},
		{at(2024, 2, 29, 9, 0) + west, 1, api.UnitYears, 3, said{at: at(2025, 2, 28, 9, 0) + west}},
		{at(2024, 2, 29, 9, 0) + west, -4, api.UnitYears, 3, said{at: at(2020, 2, 29, 9, 0) + west}},
		{at(2024, 2, 28, 9, 0) + west, 2, api.UnitDays, 3, said{at: at(2024, 3, 1, 9, 0) + west}},
		{at(2024, 2, 28, 9, 0) + west, -365, api.UnitDays, 3, said{at: at(2023, 2, 28, 9, 0) + west}},
		{at(2024, 3, 9, 2, 30) + west, 1, api.UnitDays, 1, said{at: at(2024, 3, 10, 7, 0)}},
		{at(2024, 3, 9, 2, 30) + west, 1, api.UnitDays, 2, said{at: at(2024, 3, 10, 7, 0)}},
		{at(2024, 3, 9, 2, 30) + west, 1, api.UnitDays, 3, said{why: api.ErrGap}},
		{at(2024, 3, 9, 2, 30) + west, 86400, api.UnitSecs, 3, said{at: at(2024, 3, 10, 2, 30) + west}},
		{at(2024, 3, 10, 7, 0), 0, api.UnitDays, 3, said{at: at(2024, 3, 10, 7, 0)}},
		{at(2024, 11, 2, 1, 30) + west - hour, 1, api.UnitDays, 1, said{at: at(2024, 11, 3, 1, 30) + west - hour}},
		{at(2024, 11, 2, 1, 30) + west - hour, 1, api.UnitDays, 2, said{at: at(2024, 11, 3, 1, 30) + west}},
		{at(2024, 11, 2, 1, 30) + west - hour, 1, api.UnitDays, 3, said{why: api.ErrTwo}},
		{at(2024, 11, 3, 1, 30) + west, 0, api.UnitDays, 1, said{at: at(2024, 11, 3, 1, 30) + west - hour}},
		{at(2024, 11, 3, 1, 30) + west, 0, api.UnitSecs, 3, said{at: at(2024, 11, 3, 1, 30) + west}},
		{at(2024, 11, 3, 1, 30) + west, 0, api.UnitYears, 3, said{why: api.ErrTwo}},
	}
	for _, x := range tests {
		compareAdd(t, sample.Two(), 1, x.at, x.n, x.unit, x.how, x.want)
	}
}

// Promise 43.1: up to the first and the last second, and local time, and one behind; as many of each unit as may be, and one more.
func TestAddEnds(t *testing.T) {
	tests := []struct {
		at   int64
		n    int64
		unit int
		want said
	}{
		{0, maxT, api.UnitSecs, said{at: maxT}}, {0, maxT + 1, api.UnitSecs, said{why: api.ErrRange}},
		{0, minT, api.UnitSecs, said{at: minT}}, {0, minT - 1, api.UnitSecs, said{why: api.ErrRange}},
		{minT, maxT - minT, api.UnitSecs, said{at: maxT}}, {maxT, minT - maxT, api.UnitSecs, said{at: minT}},
		{minT, mostAdd, api.UnitSecs, said{why: api.ErrRange}}, {maxT, -mostAdd, api.UnitSecs, said{why: api.ErrRange}},
		{maxT, mostAdd, api.UnitSecs, said{why: api.ErrRange}}, {minT, -mostAdd, api.UnitSecs, said{why: api.ErrRange}},
		{first - hour, 0, api.UnitDays, said{at: first - hour}}, {first - hour - 1, 0, api.UnitDays, said{why: api.ErrRange}},
		{first - hour - 1, 1, api.UnitDays, said{at: first - hour - 1 + day}}, {minT, 2, api.UnitDays, said{at: minT + 2*day}}, {minT, 1, api.UnitDays, said{why: api.ErrRange}},
		{last - 2*hour, 0, api.UnitDays, said{at: last - 2*hour}}, {last - 2*hour + 1, 0, api.UnitDays, said{why: api.ErrRange}},
		{last - 2*hour + 1, -1, api.UnitDays, said{at: last - 2*hour + 1 - day}},
	}
	for _, x := range tests {
		compareAdd(t, sample.Two(), 0, x.at, x.n, x.unit, api.PolicyReject, x.want)
	}
	for unit := api.UnitYears; unit <= api.UnitSecs; unit++ {
		for _, n := range []int64{mostAdd, -mostAdd, mostAdd + 1, -mostAdd - 1, math.MaxInt64, math.MinInt64} {
			compareAdd(t, sample.Two(), 0, 0, n, unit, api.PolicyEarly, said{why: api.ErrRange})
		}
	}
	// A local time ahead of the first year, or behind the last one, has a date, too.
	compareAdd(t, sample.Two(), 1, minT, 9, api.UnitDays, api.PolicyEarly, said{at: minT + 9*day})
	compareAdd(t, sample.Two(), 1, minT, 1, api.UnitMonths, api.PolicyEarly, said{at: minT + 31*day})
	compareAdd(t, sample.Two(), 1, minT, 1, api.UnitYears, api.PolicyEarly, said{at: minT + 365*day})
	compareAdd(t, sample.Two(), 0, maxT, -9, api.UnitDays, api.PolicyEarly, said{at: maxT - 9*day})
	compareAdd(t, sample.Two(), 0, maxT, -1, api.UnitMonths, api.PolicyEarly, said{at: maxT - 31*day})
	compareAdd(t, sample.Two(), 0, maxT, -1, api.UnitYears, api.PolicyEarly, said{at: maxT - 365*day})
}

// Promise 43.1: a unit, or a policy, that is none is told ahead of a zone that is not there, that ahead of a second that may not be, and that ahead of all else.
func TestAddErrors(t *testing.T) {
	numbers := []int{math.MinInt, -1, 0, 1, 2, 3, 4, 5, 1 << 32, math.MaxInt}
	for _, zone := range []int{math.MinInt, -1, 1, 2, math.MaxInt} {
		for _, at := range []int64{math.MinInt64, minT - 1, 0, maxT + 1, math.MaxInt64} {
			for _, n := range []int64{math.MinInt64, 0, mostAdd + 1, math.MaxInt64} {
				for _, unit := range numbers {
					for _, how := range numbers {
						compareAdd(t, sample.Two(), zone, at, n, unit, how, add(sample.Two(), zone, at, n, unit, how))
					}
				}
			}
		}
	}
	compareAdd(t, sample.Two(), 9, 0, 1<<60, 0, 1, said{why: api.ErrForm})
	compareAdd(t, sample.Two(), 9, 0, 1<<60, 4, 0, said{why: api.ErrForm})
	compareAdd(t, sample.Two(), 9, math.MaxInt64, 1<<60, 4, 1, said{why: api.ErrNone})
	compareAdd(t, sample.Two(), 1, math.MaxInt64, 1<<60, 4, 1, said{why: api.ErrRange})
}

// text is what Text must answer, by Go's calendar.
func text(table api.Table, zone int, at int64) (string, api.Errno) {
	v, why := point.Value(table, zone, at)
	if why != api.OK {
		return "", why
	}
	s, sign, ahead := time.Unix(at+v.Off, 0).UTC(), "+", v.Off
	if ahead < 0 {
		sign, ahead = "-", -ahead
	}
	off := fmt.Sprintf("%s%02d", sign, ahead/hour)
	if ahead%hour > 0 {
		off += fmt.Sprintf("%02d", ahead%hour/60)
	}
	if ahead%60 > 0 {
		off += fmt.Sprintf("%02d", ahead%60)
	}
	year := fmt.Sprintf("%04d", s.Year())
	if s.Year() < 0 {
		year = fmt.Sprintf("-%04d", -s.Year())
	}
	return fmt.Sprintf("%s-%02d-%02dT%02d:%02d:%02d %s %s", year, s.Month(), s.Day(), s.Hour(), s.Minute(), s.Second(), off, v.Abbr), api.OK
}

// Promise 43.2: any tables that fit, any seconds.
func TestText(t *testing.T) {
	random := rand.New(rand.NewSource(432))
	for range 300 {
		table := sample.Table(random.Intn)
		for zone := range table.Zones {
			for _, at := range some(random, table, zone) {
				want, why := text(table, zone, at)
				compareText(t, table, zone, at, want, why)
			}
		}
	}
}

// Promise 43.2: what is known, at both ends of all seconds, too.
func TestTextKnown(t *testing.T) {
	compareText(t, sample.Two(), 1, 1710053999, "2024-03-10T01:59:59 -05 EST", api.OK)
	compareText(t, sample.Two(), 1, 1710054000, "2024-03-10T03:00:00 -04 EDT", api.OK)
	compareText(t, sample.Two(), 0, -62167219200, "0000-01-01T01:00:00 +01 X", api.OK)
	compareText(t, sample.Two(), 0, -62167222801, "-0001-12-31T23:59:59 +01 X", api.OK)
	compareText(t, sample.Two(), 0, minT, "-32767-01-01T01:00:00 +01 X", api.OK)
	compareText(t, sample.Two(), 0, maxT-2*hour, "32767-12-31T23:59:59 +02 Y", api.OK)
	compareText(t, sample.Two(), 0, maxT, "32768-01-01T01:59:59 +02 Y", api.OK)
	compareText(t, sample.Two(), 1, minT+5*hour, "-32767-01-01T00:00:00 -05 EST", api.OK)
	compareText(t, sample.Two(), 1, minT, "-32768-12-31T19:00:00 -05 EST", api.OK)
	table := api.Table{Zones: []api.Zone{{Name: "L", Eras: []api.Era{{Off: 1172, Kind: api.RulesFixed, Save: 60, Format: "a/%"}}}}}
	compareText(t, table, 0, 0, "", api.ErrForm)
	for _, format := range []string{"%z", "%s%s", "E%s", "%s", "a/b"} {
		table.Zones[0].Eras[0].Format = format
		v, why := point.Value(table, 0, 0)
		if why != api.OK {
			compareText(t, table, 0, 0, "", why)
			continue
		}
		compareText(t, table, 0, 0, "1970-01-01T00:20:32 +002032 "+v.Abbr, api.OK)
	}
}

// midnight is what Midnight must answer, by the words.
func midnight(table api.Table, zone int, at int64) said {
	v, why := point.Value(table, zone, at)
	if why != api.OK {
		return said{why: why}
	}
	s := time.Unix(at+v.Off, 0).UTC()
	to, why := policy.To(table, zone, time.Date(s.Year(), s.Month(), s.Day(), 0, 0, 0, 0, time.UTC).Unix(), api.PolicyEarly)
	return said{to, why}
}

// Promise 43.2: any tables that fit, any seconds, of which many are of days at whose beginning, or end, something changes.
func TestMidnight(t *testing.T) {
	random := rand.New(rand.NewSource(4320))
	unlike := map[string]int{}
	for range 400 {
		table := sample.Table(random.Intn)
		for zone := range table.Zones {
			for _, at := range some(random, table, zone) {
				want := midnight(table, zone, at)
				compareMidnight(t, table, zone, at, want)
				if want.why != api.OK {
					continue
				}
				back, _ := policy.From(table, zone, want.at)
				if (back%day+day)%day != 0 {
					unlike["none"]++
				} else if times, _ := local.Seconds(table, zone, back); len(times) == 2 {
					unlike["two"]++
				}
			}
		}
	}
	if unlike["none"] < 5 || unlike["two"] < 5 {
		t.Error(unlike)
	}
}

// Promise 43.2: a day that has its first second twice begins at the earlier one; one that has none begins at the gap.
func TestMidnightKnown(t *testing.T) {
	turn := api.Until{Has: true, Year: 2000, Month: 1, On: api.On{Day: 2}}
	zone := func(ahead, behind, second int64) api.Table {
		turn.At.Sec = second
		return api.Table{Zones: []api.Zone{{Name: "A", Eras: []api.Era{{Off: ahead, Format: "X", Until: turn}, {Off: behind, Format: "Y"}}}}}
	}
	const begin = 946771200 // January 2 of 2000
	tests := []struct {
		table api.Table
		at    int64
		want  int64
	}{
		{zone(0, hour, 0), begin, begin}, {zone(0, hour, 0), begin + 5, begin}, {zone(0, hour, 0), begin - 1, begin - day}, {zone(0, hour, 0), begin + day, begin + day - hour},
		{zone(hour, 0, 0), begin - hour - 1, begin - hour - day}, {zone(hour, 0, 0), begin - hour, begin - hour - day}, {zone(hour, 0, 0), begin, begin},
		{zone(hour, 0, hour), begin, begin - hour}, {zone(hour, 0, hour), begin + 5*hour, begin - hour}, {zone(hour, 0, hour), begin - 1, begin - hour},
	}
	for i, x := range tests {
		if why := load.Table(x.table); why != api.OK {
			t.Fatal("the table does not fit: ", why)
		}
		if got, why := zoned.Midnight(x.table, 0, x.at); got != x.want || why != api.OK {
			t.Errorf("%d: %d, %d; not %d", i, got, why, x.want)
		}
	}
	compareMidnight(t, sample.Two(), 1, 1709969400, said{at: 1709969400 - 9000})
	compareMidnight(t, sample.Two(), 0, first-hour, said{at: first - hour})
	compareMidnight(t, sample.Two(), 0, first-hour-1, said{why: api.ErrRange})
	compareMidnight(t, sample.Two(), 0, maxT-2*day-2*hour, said{at: maxT + 1 - 3*day - 2*hour})
	compareMidnight(t, sample.Two(), 0, maxT-2*day-2*hour+1, said{why: api.ErrRange})
	compareMidnight(t, sample.Two(), 1, minT, said{why: api.ErrRange})
}

// Promise 43.2: that there is no such zone is told ahead of what is out of range.
func TestErrors(t *testing.T) {
	for _, zone := range []int{math.MinInt, -1, 0, 1, 2, math.MaxInt} {
		for _, at := range append(sample.Far(), math.MinInt64, math.MaxInt64) {
			why := api.ErrRange
			if zone != 0 && zone != 1 {
				why = api.ErrNone
			} else if minT <= at && at <= maxT {
				continue
			}
			compareText(t, sample.Two(), zone, at, "", why)
			compareMidnight(t, sample.Two(), zone, at, said{why: why})
		}
	}
}

// Promise 43.3: what is moved by days, months or years has the date, moved, and the same time of day, if there is such a local time.
func TestAsTheCalendarSays(t *testing.T) {
	random := rand.New(rand.NewSource(433))
	for range 150 {
		table := sample.Table(random.Intn)
		for zone := range table.Zones {
			for _, at := range some(random, table, zone) {
				unit, n, how := 1+random.Intn(3), int64(random.Intn(60)-30), 1+random.Intn(3)
				got, why := zoned.Add(table, zone, at, n, unit, how)
				if why != api.OK {
					continue
				}
				l, _ := policy.From(table, zone, at)
				want, _ := moved(l, n, unit)
				back, _ := policy.From(table, zone, got)
				if times, _ := local.Seconds(table, zone, want); len(times) > 0 && back != want {
					t.Fatalf("Add of %d in %v at %d, %d of %d: %d; not %d", zone, table, at, n, unit, back, want)
				}
			}
		}
	}
}

// Promise 43.4: by seconds one comes back; by days, too, unless a local time on the way is none or two.
func TestThereAndBack(t *testing.T) {
	random := rand.New(rand.NewSource(434))
	for range 150 {
		table := sample.Table(random.Intn)
		for zone := range table.Zones {
			for _, at := range some(random, table, zone) {
				n := int64(random.Intn(2000) - 1000)
				if there, why := zoned.Add(table, zone, at, n, api.UnitSecs, api.PolicyReject); why == api.OK {
					compareAdd(t, table, zone, there, -n, api.UnitSecs, api.PolicyReject, said{at: at})
				}
				there, why := zoned.Add(table, zone, at, n, api.UnitDays, api.PolicyReject)
				l, _ := policy.From(table, zone, at)
				if times, _ := local.Seconds(table, zone, l); why == api.OK && len(times) == 1 {
					compareAdd(t, table, zone, there, -n, api.UnitDays, api.PolicyReject, said{at: at})
				}
			}
		}
	}
}

// Whoever finds the infos, and what holds, are handed in.
func TestBy(t *testing.T) {
	asked := 0
	find := func(at int64) (api.Info, api.Errno) {
		asked++
		return api.Info{Span: api.Span{From: minT, To: maxT + 1}, Value: api.Value{Off: 5, Abbr: "F"}}, api.OK
	}
	if at, why := zoned.AddBy(find, 10, 2, api.UnitDays, api.PolicyReject); at != 10+2*day || why != api.OK || asked == 0 {
		t.Error(at, why, asked)
	}
	none := func(at int64) (api.Info, api.Errno) { return api.Info{}, api.ErrNone }
	if at, why := zoned.AddBy(none, 10, mostAdd+1, api.UnitSecs, api.PolicyReject); at != 0 || why != api.ErrNone {
		t.Error(at, why)
	}
	if text, why := zoned.TextOf(0, api.Value{Off: -3661, Save: 5, Abbr: "A"}); text != "1969-12-31T22:58:59 -010101 A" || why != api.OK {
		t.Error(text, why)
	}
	for _, x := range []struct{ at, off int64 }{{math.MaxInt64, 1}, {math.MaxInt64, 0}, {0, 360000}, {0, -360000}, {math.MinInt64, -1}} {
		if text, why := zoned.TextOf(x.at, api.Value{Off: x.off, Abbr: "A"}); text != "" || why != api.ErrRange {
			t.Error(x, text, why)
		}
	}
}

// Of a table that does not fit there is an answer, whatever it is; but beside an error there is nothing.
func TestTablesThatDoNotFit(t *testing.T) {
	for _, table := range sample.Unfit() {
		for _, at := range append(sample.Far(), first, last, -631152000, 1893456000) {
			for unit := 0; unit <= 5; unit++ {
				for _, n := range []int64{-mostAdd, -1, 0, 1, mostAdd} {
					if got, why := zoned.Add(table, 0, at, n, unit, api.PolicyEarly); why != api.OK && got != 0 {
						t.Errorf("Add of %v at %d, %d of %d: %d, %d", table, at, n, unit, got, why)
					}
				}
			}
			if text, why := zoned.Text(table, 0, at); (why != api.OK) != (text == "") {
				t.Errorf("Text of %v at %d: %q, %d", table, at, text, why)
			}
			if got, why := zoned.Midnight(table, 0, at); why != api.OK && got != 0 {
				t.Errorf("Midnight of %v at %d: %d, %d", table, at, got, why)
			}
		}
	}
}

// The example.
func TestExample(t *testing.T) {
	table, fault := load.Source("Rule US 2007 max - Mar Sun>=8 2:00 1:00 D\nRule US 2007 max - Nov Sun>=1 2:00 0 S\nZone E -5:00 US E%sT")
	if fault.Err != api.OK {
		t.Fatal(fault)
	}
	const at = 1709969400
	compareText(t, table, 0, at, "2024-03-09T02:30:00 -05 EST", api.OK)
	for _, how := range []int{api.PolicyEarly, api.PolicyLate} {
		there, _ := zoned.Add(table, 0, at, 1, api.UnitDays, how)
		compareText(t, table, 0, there, "2024-03-10T03:00:00 -04 EDT", api.OK)
	}
	there, _ := zoned.Add(table, 0, at, 86400, api.UnitSecs, api.PolicyEarly)
	compareText(t, table, 0, there, "2024-03-10T03:30:00 -04 EDT", api.OK)
}
