package hours_test

import (
	"math"
	"math/rand"
	"reflect"
	"slices"
	"testing"
	"time"

	"noontide/api"
	"noontide/hours"
	"noontide/point"
	"noontide/sample"
	"noontide/spans"
)

const (
	hour = 3600
	day  = 86400
	week = 7 * day
	long = 34560000
	minT = -1096193779200
	maxT = 971890963199
)

// list is what In answers.
type list struct {
	set []api.Span
	why api.Errno
}

// said is what Is answers.
type said struct {
	is  bool
	why api.Errno
}

func in(t api.Table, zone int, l []api.Open, s api.Span) list {
	set, why := hours.In(t, zone, l, s)
	return list{set, why}
}

func (l list) is(other list) bool {
	return slices.Equal(l.set, other.set) && l.why == other.why
}

func is(t api.Table, zone int, l []api.Open, at int64) said {
	is, why := hours.Is(t, zone, l, at)
	return said{is, why}
}

// shows tells whether something is open while a wall clock shows a second, as Go's own calendar says.
func shows(l []api.Open, wall int64) bool {
	at := time.Unix(wall, 0).UTC()
	second := int64(at.Hour()*3600 + at.Minute()*60 + at.Second())
	for _, o := range l {
		if o.Day == int(at.Weekday()) && o.From <= second && second < o.To {
			return true
		}
	}
	return false
}

// held is the offset that holds, infos being those of the zone.
func held(infos []api.Info, at int64) int64 {
	return infos[slices.IndexFunc(infos, func(i api.Info) bool { return i.Span.From <= at && at < i.Span.To })].Value.Off
}

// edges are all seconds of a span at which something could open or close, and its ends, in order.
func edges(infos []api.Info, l []api.Open, s api.Span) []int64 {
	times := []int64{s.From, s.To}
	for _, i := range infos {
		from, to := max(i.Span.From, s.From), min(i.Span.To, s.To)
		if from >= to {
			continue
		}
		times = append(times, from)
		for midnight := (from+i.Value.Off)/day*day - 2*day; midnight <= to+i.Value.Off+day; midnight += day {
			for _, o := range append(l, api.Open{}) {
				times = append(times, midnight+o.From-i.Value.Off, midnight+o.To-i.Value.Off)
			}
		}
	}
	times = slices.DeleteFunc(times, func(t int64) bool { return t < s.From || t > s.To })
	slices.Sort(times)
	return slices.Compact(times)
}

// told is what In must answer of what is right, from edge to edge.
func told(infos []api.Info, l []api.Open, s api.Span) list {
	s = api.Span{From: max(s.From, minT), To: min(s.To, maxT+1)}
	var set []api.Span
	if s.From >= s.To {
		return list{}
	}
	times := edges(infos, l, s)
	for n, to := range times[1:] {
		from := times[n]
		if !shows(l, from+held(infos, from)) {
			continue
		}
		if last := len(set) - 1; last >= 0 && set[last].To == from {
			set[last].To = to
			continue
		}
		set = append(set, api.Span{From: from, To: to})
	}
	return list{set: set}
}

// slowly is the same, second by second.
func slowly(infos []api.Info, l []api.Open, s api.Span) list {
	var set []api.Span
	for at := max(s.From, minT); at < min(s.To, maxT+1); at++ {
		if !shows(l, at+held(infos, at)) {
			continue
		}
		if last := len(set) - 1; last >= 0 && set[last].To == at {
			set[last].To++
			continue
		}
		set = append(set, api.Span{From: at, To: at + 1})
	}
	return list{set: set}
}

func one[T any](random *rand.Rand, l ...T) T { return l[random.Intn(len(l))] }

// anyOpen is right: few of it, some of it whole days, or such as touch.
func anyOpen(random *rand.Rand) []api.Open {
	var l []api.Open
	for weekday := range 7 {
		from := int64(0)
		for range random.Intn(4) {
			o := api.Open{Day: weekday, From: one(random, 0, from, from+random.Int63n(day)), To: one(random, day, from+1, from+1+random.Int63n(day))}
			if o.From >= from && o.From < o.To && o.To <= day {
				l = append(l, o)
				from = o.To
			}
		}
	}
	return l
}

// many are as many as stand on as many days, each open for a second.
func many(count, days int) []api.Open {
	l := make([]api.Open, count)
	for n := range l {
		l[n] = api.Open{Day: n * days / count, From: int64(2 * n), To: int64(2*n + 1)}
	}
	return l
}

// wrong is not right.
func wrong() [][]api.Open {
	l := [][]api.Open{{{}}, many(101, 7), many(101, 1)}
	for _, bad := range []api.Open{
		{Day: math.MinInt, To: 1}, {Day: -1, To: 1}, {Day: 7, To: 1}, {Day: math.MaxInt, To: 1}, {Day: 1 << 32, To: 1},
		{From: math.MinInt64, To: 1}, {From: -1, To: 1}, {From: 1, To: 1}, {From: 2, To: 1}, {From: 1, To: 86401}, {From: 86400, To: 86401}, {From: 5, To: math.MaxInt64}, {From: math.MaxInt64, To: math.MinInt64}, {From: 0, To: 0}, {From: 86400, To: 86400},
	} {
		l = append(l, []api.Open{bad}, []api.Open{{Day: 6, From: 5, To: 9}, bad}, []api.Open{bad, {Day: 6, From: 5, To: 9}})
	}
	return append(l,
		[]api.Open{{From: 5, To: 9}, {From: 8, To: 10}}, []api.Open{{From: 5, To: 9}, {From: 5, To: 9}}, []api.Open{{From: 5, To: 9}, {From: 0, To: 5}}, []api.Open{{Day: 1, From: 0, To: 5}, {Day: 0, From: 5, To: 9}},
		[]api.Open{{Day: 6, From: 5, To: 9}, {Day: 0, From: 10, To: 11}}, []api.Open{{From: 5, To: 9}, {From: 9, To: 10}, {From: 9, To: 11}})
}

// Promise 55.1: what is right, what not, and how long it is open in a week.
func TestRight(t *testing.T) {
	random := rand.New(rand.NewSource(551))
	right := [][]api.Open{nil, {}, many(100, 7), many(100, 1), {{To: 1}}, {{Day: 6, To: day}}, {{From: day - 1, To: day}}, {{From: 5, To: 9}, {From: 9, To: day}, {Day: 6, To: 1}}, {{Day: 1, From: 5, To: 9}, {Day: 2, From: 0, To: 1}}}
	for range 2000 {
		right = append(right, anyOpen(random))
	}
	for _, l := range right {
		var sum int64
		for _, o := range l {
			sum += o.To - o.From
		}
		if is, n := hours.Right(l), hours.Long(l); !is || n != sum {
			t.Fatalf("%v: %t, %d, not %d", l, is, n, sum)
		}
	}
	for _, l := range wrong() {
		if is, n := hours.Right(l), hours.Long(l); is || n != 0 {
			t.Errorf("%v: %t, %d", l, is, n)
		}
	}
}

// Promise 55.2: whether a second is an open one, where something opens, closes, or clocks are changed.
func TestIs(t *testing.T) {
	random := rand.New(rand.NewSource(552))
	told := map[said]int{}
	for range 300 {
		table := sample.Table(random.Intn)
		zone := random.Intn(len(table.Zones))
		infos := sample.Infos(table, zone)
		l := anyOpen(random)
		var times []int64
		for _, i := range infos {
			times = append(times, i.Span.From)
		}
		for _, at := range sample.Around(times) {
			for range 3 {
				want := said{why: api.ErrRange}
				if at >= minT && at <= maxT {
					want = said{is: shows(l, at+held(infos, at))}
				}
				if got := is(table, zone, l, at); got != want {
					t.Fatalf("Is(%v, %d, %v, %d): %v, not %v", table, zone, l, at, got, want)
				}
				told[want]++
				if len(l) > 0 {
					o := l[random.Intn(len(l))]
					// Weeks are counted from a Thursday on.
					at = max(min(at, maxT-week), minT+week)
					off := held(infos, at)
					at = (at+off)/week*week + int64(o.Day+3)%7*day + one(random, o.From, o.From-1, o.To, o.To-1) - off
				}
			}
		}
	}
	if told[said{is: true}] < 5000 || told[said{}] < 5000 || told[said{why: api.ErrRange}] < 500 {
		t.Error(told)
	}
}

// Promise 55.2: the errors, and which one of several.
func TestIsWrong(t *testing.T) {
	table := sample.Two()
	for _, l := range append(wrong(), many(100, 7)) {
		for _, zone := range []int{math.MinInt, -1, 0, 1, 2, math.MaxInt} {
			for _, at := range sample.Far() {
				want := said{}
				_, want.why = point.Value(table, zone, at)
				if !hours.Right(l) {
					want.why = api.ErrForm
				}
				if got := is(table, zone, l, at); got.why != want.why || got.is && want.why != api.OK {
					t.Fatalf("Is(%v, %d, %d): %v, not %v", l, zone, at, got, want)
				}
			}
		}
	}
}

// compare tells whether In answers what it must.
func compare(t *testing.T, table api.Table, zone int, l []api.Open, s api.Span, want list) {
	t.Helper()
	got := in(table, zone, l, s)
	if !got.is(want) {
		t.Fatalf("In(%v, %d, %v, %v): %v, not %v", table, zone, l, s, got, want)
	}
	if !spans.Right(got.set) {
		t.Fatalf("In(%v, %d, %v, %v): %v, which is no set", table, zone, l, s, got)
	}
}

// Promises 55.3 and 55.4: second by second, around where clocks are changed.
func TestSeconds(t *testing.T) {
	random := rand.New(rand.NewSource(553))
	for range 40 {
		table := sample.Table(random.Intn)
		zone := random.Intn(len(table.Zones))
		infos := sample.Infos(table, zone)
		l := anyOpen(random)
		from := infos[random.Intn(len(infos))].Span.From - random.Int63n(day)
		s := api.Span{From: from, To: from + 1 + random.Int63n(2*day)}
		want := slowly(infos, l, s)
		if !want.is(told(infos, l, s)) {
			t.Fatalf("of %v in %v at %d, in %v: %v or %v", l, table, zone, s, want, told(infos, l, s))
		}
		compare(t, table, zone, l, s, want)
	}
}

// Promises 55.3 and 55.4: any spans of any tables.
func TestIn(t *testing.T) {
	random := rand.New(rand.NewSource(554))
	some := 0
	for range 300 {
		table := sample.Table(random.Intn)
		zone := random.Intn(len(table.Zones))
		infos := sample.Infos(table, zone)
		for range 4 {
			l := anyOpen(random)
			from := one(random, infos...).Span.From + one(random, 0, -1, 1, -random.Int63n(week), -random.Int63n(long))
			s := api.Span{From: from, To: from + one(random, 1, 1+random.Int63n(week), 1+random.Int63n(60*day), 1+random.Int63n(60*day))}
			want := told(infos, l, s)
			some += len(want.set)
			compare(t, table, zone, l, s, want)
		}
	}
	if some < 5000 {
		t.Error(some)
	}
}

// Promise 55.3: as long a span as may be, and both ends of all seconds.
func TestInEnds(t *testing.T) {
	random := rand.New(rand.NewSource(555))
	for _, off := range []int64{-15 * hour, -1, 0, 15 * hour} {
		for _, save := range []int64{-3 * hour, 0, 3 * hour} {
			table := api.Table{Zones: []api.Zone{{Name: "Z", Eras: []api.Era{{Off: off, Kind: api.RulesFixed, Save: save, Format: "X"}}}}}
			infos := sample.Infos(table, 0)
			for _, l := range [][]api.Open{anyOpen(random), {{Day: 0, To: day}, {Day: 1, To: day}, {Day: 2, To: day}, {Day: 3, To: day}, {Day: 4, To: day}, {Day: 5, To: day}, {Day: 6, To: day}}} {
				for _, s := range []api.Span{
					{From: minT, To: minT + week}, {From: minT - 1, To: minT + 1}, {From: minT - day, To: minT}, {From: minT - week, To: minT + week}, {From: math.MinInt64, To: math.MinInt64 + week},
					{From: maxT - week, To: maxT + 1}, {From: maxT, To: maxT + 2}, {From: maxT + 1, To: maxT + 2}, {From: maxT - week, To: maxT + week}, {From: math.MaxInt64 - week, To: math.MaxInt64},
					{From: minT, To: minT + long}, {From: minT - long + 1, To: minT + 1}, {From: maxT - long + 1, To: maxT + 1}, {From: maxT, To: maxT + long}, {From: -5, To: long - 5},
				} {
					compare(t, table, 0, l, s, told(infos, l, s))
				}
			}
		}
	}
}

// Promise 55.3: the errors, and which one of several.
func TestInWrong(t *testing.T) {
	table := sample.Two()
	right := []api.Span{{To: 1}, {To: long}, {From: minT - long, To: minT}, {From: math.MaxInt64 - long, To: math.MaxInt64}}
	bad := []api.Span{{}, {From: 1}, {From: 1, To: 1}, {To: long + 1}, {From: -1, To: long}, {From: math.MinInt64, To: math.MaxInt64}, {From: math.MinInt64, To: 0}, {From: math.MaxInt64, To: math.MinInt64}, {From: minT - long - 1, To: minT}, {From: -1, To: math.MaxInt64}}
	for _, l := range append(wrong(), many(100, 7), nil) {
		for _, zone := range []int{math.MinInt, -1, 0, 1, 2, math.MaxInt} {
			for _, s := range slices.Concat(right, bad) {
				want := api.OK
				switch {
				case !hours.Right(l):
					want = api.ErrForm
				case zone != 0 && zone != 1:
					want = api.ErrNone
				case slices.Contains(bad, s):
					want = api.ErrRange
				}
				if got := in(table, zone, l, s); got.why != want || len(got.set) != 0 && want != api.OK {
					t.Fatalf("In(%d, %v, %v): %v, not %d", zone, l, s, got, want)
				}
			}
		}
	}
}

// Promise 55.3: what is known: days that have an hour less, and an hour more.
func TestKnown(t *testing.T) {
	table := sample.Two()
	sundays := []api.Open{{From: hour, To: 3 * hour}}
	compare(t, table, 1, sundays, api.Span{From: 1710046800, To: 1710133200}, list{set: []api.Span{{From: 1710050400, To: 1710054000}}})
	compare(t, table, 1, sundays, api.Span{From: 1730606400, To: 1730696400}, list{set: []api.Span{{From: 1730610000, To: 1730620800}}})
	// Of 1:00 to 2:00 both that day's hours are open, and are one span; of half an hour they are two.
	fall := api.Span{From: 1730606400, To: 1730696400}
	compare(t, table, 1, []api.Open{{From: hour, To: 2 * hour}}, fall, list{set: []api.Span{{From: 1730610000, To: 1730617200}}})
	compare(t, table, 1, []api.Open{{From: hour, To: hour + hour/2}}, fall, list{set: []api.Span{{From: 1730610000, To: 1730611800}, {From: 1730613600, To: 1730615400}}})
	// Of 2:00 to 3:00 there is nothing on the other day.
	compare(t, table, 1, []api.Open{{From: 2 * hour, To: 3 * hour}}, api.Span{From: 1710046800, To: 1710133200}, list{})
	// Nights go on at midnight.
	nights := []api.Open{{Day: 5, From: 22 * hour, To: day}, {Day: 6, To: 4 * hour}}
	compare(t, table, 0, nights, api.Span{From: 0, To: week}, list{set: []api.Span{{From: 158400, To: 180000}}})
}

// Promise 55.5: in a week in which no clock is changed as much is open as Long says.
func TestWeeks(t *testing.T) {
	random := rand.New(rand.NewSource(556))
	weeks := 0
	for range 500 {
		table := sample.Table(random.Intn)
		zone := random.Intn(len(table.Zones))
		for _, i := range sample.Infos(table, zone) {
			if i.Span.To-i.Span.From < week {
				continue
			}
			l := anyOpen(random)
			from := i.Span.From + random.Int63n(i.Span.To-i.Span.From-week+1)
			got := in(table, zone, l, api.Span{From: from, To: from + week})
			if n, _ := spans.Total(got.set); n != hours.Long(l) || got.why != api.OK {
				t.Fatalf("of %v in %v at %d, from %d on: %v", l, table, zone, from, got)
			}
			weeks++
		}
	}
	if weeks < 2000 {
		t.Error(weeks)
	}
}

// Promises 55.2 and 55.3: of a table that does not fit something is answered.
func TestUnfit(t *testing.T) {
	l := many(100, 7)
	for _, table := range sample.Unfit() {
		for _, at := range sample.Far() {
			hours.Is(table, 0, l, at)
			hours.In(table, 0, l, api.Span{From: max(at, math.MinInt64+long) - long, To: at})
			hours.In(table, 0, l, api.Span{From: at, To: min(at, math.MaxInt64-long) + long})
		}
	}
}

// Promises 55.1 to 55.3: what is handed in is not changed, and what is told is told anew.
func TestOwn(t *testing.T) {
	table, l, s := sample.Two(), many(100, 7), api.Span{To: long}
	a := in(table, 1, l, s)
	hours.Right(l)
	hours.Long(l)
	is(table, 1, l, 0)
	b := in(table, 1, l, s)
	a.set[0].From--
	if !reflect.DeepEqual(table, sample.Two()) || !slices.Equal(l, many(100, 7)) || a.set[0] == b.set[0] {
		t.Error("something is shared, or was changed")
	}
}

// Promise 55.3: much that is open, for as long as may be.
func TestSoon(t *testing.T) {
	begin := time.Now()
	table := sample.Two()
	for range 100 {
		if got := in(table, 1, many(100, 7), api.Span{To: long}); len(got.set) < 5000 {
			t.Fatal(len(got.set))
		}
	}
	if took := time.Since(begin); took > 20*time.Second {
		t.Error(took)
	}
}
