package recur_test

import (
	"math"
	"math/rand"
	"reflect"
	"slices"
	"testing"
	"time"

	"noontide/api"
	"noontide/policy"
	"noontide/recur"
	"noontide/sample"
)

const (
	hour  = 3600
	day   = 86400
	minT  = -1096193779200
	maxT  = 971890963199
	first = minT + 172800
	last  = maxT - 172800
)

// said is a second, or why there is none.
type said struct {
	at  int64
	why api.Errno
}

// list is what In answers.
type list struct {
	times []int64
	why   api.Errno
}

// next is what Next answers.
type next struct {
	at int64
	is bool
}

func local(r api.Recur, k int) said {
	at, why := recur.Local(r, k)
	return said{at, why}
}

// moved is a date, moved as Go's own calendar does it.
func moved(r api.Recur, k int64) time.Time {
	begin := time.Unix(r.Start, 0).UTC()
	n := int(k * r.Every)
	if r.Unit == api.UnitDays {
		return begin.AddDate(0, 0, n)
	}
	if r.Unit == api.UnitYears {
		n *= 12
	}
	year, month, of := begin.Date()
	// From the month's first day on no month is jumped over.
	there := time.Date(year, month, 1, begin.Hour(), begin.Minute(), begin.Second(), 0, time.UTC).AddDate(0, n, 0)
	lastDay := there.AddDate(0, 1, -1).Day()
	return there.AddDate(0, 0, min(of, lastDay)-1)
}

// locally is what Local must answer of what may be, by Go's own calendar.
func locally(r api.Recur, k int) said {
	if k < 0 || k >= r.Count {
		return said{why: api.ErrNone}
	}
	at := moved(r, int64(k))
	if year := at.Year(); year < -40000 || year > 40000 {
		return said{why: api.ErrRange}
	}
	return said{at: at.Unix()}
}

func units() []int { return []int{api.UnitYears, api.UnitMonths, api.UnitDays} }

func one[T any](random *rand.Rand, l ...T) T { return l[random.Intn(len(l))] }

// anyRecur may be.
func anyRecur(random *rand.Rand) api.Recur {
	return api.Recur{
		Start: one(random, minT, maxT, 0, 951782400, minT+random.Int63n(maxT-minT+1)),
		Unit:  one(random, units()...),
		Every: one(random, 1, 2, 100000, 1+random.Int63n(100000), 1+random.Int63n(100)),
		Count: one(random, 1, 2, 100000, 1+random.Intn(100000)),
	}
}

// near comes again around a change of infos, by its number k on the day of that, and at a time of day at which clocks may be changed.
func near(random *rand.Rand, infos []api.Info) (r api.Recur, k int) {
	at := random.Intn(len(infos))
	i, before := infos[at], infos[max(at-1, 0)]
	shown := i.Span.From + one(random, i.Value.Off, before.Value.Off, (i.Value.Off+before.Value.Off)/2) + one(random, -1, 0, 0, random.Int63n(4*hour)-2*hour)
	r = api.Recur{Unit: one(random, units()...), Every: one[int64](random, 1, 1, 3, 7), Count: 1 + random.Intn(400)}
	k = random.Intn(min(r.Count, 20))
	back := -k * int(r.Every)
	begin := time.Unix(shown, 0).UTC()
	switch r.Unit {
	case api.UnitDays:
		begin = begin.AddDate(0, 0, back)
	case api.UnitMonths:
		begin = begin.AddDate(0, back, 0)
	case api.UnitYears:
		begin = begin.AddDate(back, 0, 0)
	}
	r.Start = min(max(begin.Unix(), minT), maxT)
	return r, k
}

// wrong may not be, each for one reason alone.
func wrong() []api.Recur {
	l := []api.Recur{{}}
	add := func(change func(r *api.Recur)) {
		r := api.Recur{Unit: api.UnitDays, Every: 1, Count: 1}
		change(&r)
		l = append(l, r)
	}
	for _, start := range []int64{math.MinInt64, minT - 1, maxT + 1, math.MaxInt64} {
		add(func(r *api.Recur) { r.Start = start })
	}
	for _, unit := range []int{math.MinInt, -1, 0, api.UnitSecs, 5, 1<<32 + 1, math.MaxInt} {
		add(func(r *api.Recur) { r.Unit = unit })
	}
	for _, every := range []int64{math.MinInt64, -1, 0, 100001, 1<<32 + 1, math.MaxInt64} {
		add(func(r *api.Recur) { r.Every = every })
	}
	for _, count := range []int{math.MinInt, -1, 0, 100001, 1<<32 + 1, math.MaxInt} {
		add(func(r *api.Recur) { r.Count = count })
	}
	return l
}

// Promise 54.1: what may be, and what not.
func TestRight(t *testing.T) {
	random := rand.New(rand.NewSource(541))
	for range 3000 {
		if r := anyRecur(random); !recur.Right(r) {
			t.Fatalf("%v may be", r)
		}
	}
	for _, r := range wrong() {
		if recur.Right(r) {
			t.Errorf("%v may not be", r)
		}
	}
}

// Promises 54.1 and 54.4: local times are moved as the calendar says, and rise by a day at least.
func TestLocal(t *testing.T) {
	random := rand.New(rand.NewSource(542))
	told := map[api.Errno]int{}
	for range 20000 {
		r := anyRecur(random)
		if random.Intn(2) == 0 {
			r.Every = 1 + random.Int63n(200)
		}
		k := one(random, -1, 0, 1, random.Intn(r.Count), r.Count-1, r.Count, math.MinInt, math.MaxInt)
		is, want := local(r, k), locally(r, k)
		if is != want {
			t.Fatalf("Local(%v, %d): %v, not %v", r, k, is, want)
		}
		told[is.why]++
		if behind := local(r, k+1); k < math.MaxInt && is.why == api.OK && behind.why == api.OK && behind.at < is.at+day {
			t.Fatalf("of %v: %v, then %v", r, is, behind)
		}
	}
	if told[api.OK] < 3000 || told[api.ErrNone] < 3000 || told[api.ErrRange] < 1000 {
		t.Error(told)
	}
}

// Promise 54.1: the last days of months, and the last date of all.
func TestLocalKnown(t *testing.T) {
	at := func(year int, month time.Month, day int) said {
		return said{at: time.Date(year, month, day, 9, 0, 0, 0, time.UTC).Unix()}
	}
	january, leap, late := at(2023, 1, 31).at, at(2024, 2, 29).at, at(32767, 12, 31).at
	for _, c := range []struct {
		r    api.Recur
		k    int
		want said
	}{
		{api.Recur{Start: january, Unit: api.UnitMonths, Every: 1, Count: 9}, 0, at(2023, 1, 31)},
		{api.Recur{Start: january, Unit: api.UnitMonths, Every: 1, Count: 9}, 1, at(2023, 2, 28)},
		{api.Recur{Start: january, Unit: api.UnitMonths, Every: 1, Count: 9}, 2, at(2023, 3, 31)},
		{api.Recur{Start: january, Unit: api.UnitMonths, Every: 1, Count: 9}, 3, at(2023, 4, 30)},
		{api.Recur{Start: january, Unit: api.UnitMonths, Every: 1, Count: 9}, 9, said{why: api.ErrNone}},
		{api.Recur{Start: leap, Unit: api.UnitYears, Every: 1, Count: 5}, 1, at(2025, 2, 28)},
		{api.Recur{Start: leap, Unit: api.UnitYears, Every: 1, Count: 5}, 4, at(2028, 2, 29)},
		{api.Recur{Start: leap, Unit: api.UnitDays, Every: 10, Count: 5}, 4, at(2024, 4, 9)},
		{api.Recur{Start: late, Unit: api.UnitYears, Every: 7233, Count: 3}, 1, at(40000, 12, 31)},
		{api.Recur{Start: late, Unit: api.UnitYears, Every: 7234, Count: 3}, 1, said{why: api.ErrRange}},
		{api.Recur{Start: late, Unit: api.UnitDays, Every: 100000, Count: 100000}, 99999, said{why: api.ErrRange}},
	} {
		if is := local(c.r, c.k); is != c.want {
			t.Errorf("Local(%v, %d): %v, not %v", c.r, c.k, is, c.want)
		}
	}
}

// Promises 54.1 and 54.2: of what may not be nothing is told, whatever else is wrong.
func TestLocalWrong(t *testing.T) {
	for _, r := range wrong() {
		for _, k := range []int{math.MinInt, -1, 0, 1, math.MaxInt} {
			if is := local(r, k); is != (said{why: api.ErrForm}) {
				t.Errorf("Local(%v, %d): %v", r, k, is)
			}
			for _, zone := range []int{0, 9} {
				if is := asked(sample.Two(), zone, r, k, api.PolicyEarly); is != (said{why: api.ErrForm}) {
					t.Errorf("Nth(%d, %v, %d): %v", zone, r, k, is)
				}
			}
		}
	}
}

// nth is what Nth must answer.
func nth(t api.Table, zone int, r api.Recur, k, how int) said {
	is := local(r, k)
	if is.why != api.OK {
		return is
	}
	at, why := policy.To(t, zone, is.at, how)
	return said{at, why}
}

func asked(t api.Table, zone int, r api.Recur, k, how int) said {
	at, why := recur.Nth(t, zone, r, k, how)
	return said{at, why}
}

// all are the times of all numbers, in order; none stands for those that have no time.
func all(t api.Table, zone int, r api.Recur, how int) []said {
	l := make([]said, r.Count)
	for k := range l {
		l[k] = nth(t, zone, r, k, how)
	}
	return l
}

func ask(t api.Table, zone int, r api.Recur, how int, s api.Span, most int) list {
	l, why := recur.In(t, zone, r, how, s, most)
	return list{l, why}
}

func (l list) is(other list) bool {
	return slices.Equal(l.times, other.times) && l.why == other.why
}

func behind(t api.Table, zone int, r api.Recur, how int, at int64) next {
	is, ok := recur.Next(t, zone, r, how, at)
	return next{is, ok}
}

func policies() []int {
	return []int{api.PolicyEarly, api.PolicyLate, api.PolicyReject}
}

// Promise 54.2: what the local time means, or why it means nothing.
func TestNth(t *testing.T) {
	random := rand.New(rand.NewSource(543))
	told := map[api.Errno]int{}
	for range 500 {
		table := sample.Table(random.Intn)
		zone := random.Intn(len(table.Zones))
		infos := sample.Infos(table, zone)
		for range 4 {
			r, change := near(random, infos)
			for range 20 {
				k := one(random, change, change, random.Intn(r.Count+2)-1)
				place := one(random, zone, zone, zone, zone, zone, -1, len(table.Zones))
				how := one(random, append(policies(), 1, 2, 3, 3, 3, 0, 4)...)
				is, want := asked(table, place, r, k, how), nth(table, place, r, k, how)
				if is != want {
					t.Fatalf("Nth(%v, %d, %v, %d, %d): %v, not %v", table, place, r, k, how, is, want)
				}
				told[is.why]++
			}
		}
	}
	for _, why := range []api.Errno{api.OK, api.ErrForm, api.ErrNone, api.ErrRange, api.ErrGap, api.ErrTwo} {
		if told[why] < 20 {
			t.Error(why, told)
		}
	}
}

// Promise 54.2: where several are wrong: Local's error first, then the policy, the zone, the local time.
func TestNthWrong(t *testing.T) {
	table := sample.Two()
	late := api.Recur{Start: maxT, Unit: api.UnitDays, Every: 1, Count: 2}
	far := api.Recur{Start: maxT, Unit: api.UnitYears, Every: 8000, Count: 2}
	for _, c := range []struct {
		zone int
		r    api.Recur
		k    int
		how  int
		why  api.Errno
	}{
		{9, api.Recur{}, 9, 9, api.ErrForm}, {9, late, 2, 9, api.ErrNone}, {9, far, 1, 9, api.ErrRange}, {9, late, 0, 9, api.ErrForm}, {9, late, 0, 1, api.ErrNone}, {1, late, 0, 1, api.ErrRange}, {1, late, 1, 3, api.ErrRange},
		{1, api.Recur{Start: 1710037800, Unit: api.UnitDays, Every: 1, Count: 1}, 0, 3, api.ErrGap},
		{1, api.Recur{Start: 1730597400, Unit: api.UnitDays, Every: 1, Count: 1}, 0, 3, api.ErrTwo},
	} {
		if is := asked(table, c.zone, c.r, c.k, c.how); is != (said{why: c.why}) {
			t.Errorf("Nth(%d, %v, %d, %d): %v, not %d", c.zone, c.r, c.k, c.how, is, c.why)
		}
	}
}

// edges are seconds at, ahead of and behind times, and far ones.
func edges(random *rand.Rand, l []said) []int64 {
	times := append(sample.Far(), math.MinInt64, math.MaxInt64)
	for range min(len(l), 20) {
		if is := l[random.Intn(len(l))]; is.why == api.OK {
			times = append(times, is.at-1, is.at, is.at+1, is.at+random.Int63n(2*day)-day)
		}
	}
	return times
}

// Promises 54.3 and 54.4: of any spans the times that lie in them; the first ones behind any seconds; and they do not fall.
func TestIn(t *testing.T) {
	random := rand.New(rand.NewSource(544))
	none := 0
	for range 400 {
		table := sample.Table(random.Intn)
		zone := random.Intn(len(table.Zones))
		r, _ := near(random, sample.Infos(table, zone))
		how := one(random, policies()...)
		l := all(table, zone, r, how)
		ahead := int64(math.MinInt64)
		for k, is := range l {
			if is.why != api.OK {
				none++
				continue
			}
			if is.at < ahead {
				t.Fatalf("of %v in %v: number %d is %d, ahead of %d", r, table, k, is.at, ahead)
			}
			ahead = is.at
		}
		times := edges(random, l)
		for range 40 {
			s := api.Span{From: one(random, times...), To: one(random, times...)}
			most := one(random, 1, 2, 1+random.Intn(9), math.MaxInt)
			check(t, table, zone, r, how, s, most, l)
			firstBehind(t, table, zone, r, how, one(random, times...), l)
		}
	}
	if none < 300 {
		t.Error(none)
	}
}

// check tells whether In answers what it must, l being the times of all numbers.
func check(t *testing.T, table api.Table, zone int, r api.Recur, how int, s api.Span, most int, l []said) {
	t.Helper()
	want := list{why: api.OK}
	if s.From >= s.To {
		want.why = api.ErrRange
	}
	for _, is := range l {
		if is.why == api.OK && s.From <= is.at && is.at < s.To && len(want.times) < most {
			want.times = append(want.times, is.at)
		}
	}
	if is := ask(table, zone, r, how, s, most); !is.is(want) {
		t.Fatalf("In(%v, %d, %v, %d, %v, %d): %v, not %v", table, zone, r, how, s, most, is, want)
	}
}

// firstBehind tells whether Next answers what it must.
func firstBehind(t *testing.T, table api.Table, zone int, r api.Recur, how int, at int64, l []said) {
	t.Helper()
	var want next
	if k := slices.IndexFunc(l, func(is said) bool { return is.why == api.OK && is.at > at }); k >= 0 {
		want = next{l[k].at, true}
	}
	if is := behind(table, zone, r, how, at); is != want {
		t.Fatalf("Next(%v, %d, %v, %d, %d): %v, not %v", table, zone, r, how, at, is, want)
	}
}

// Promise 54.3: what is known: months and days of a zone in which clocks are changed.
func TestInKnown(t *testing.T) {
	table := sample.Two()
	whole := api.Span{From: minT, To: maxT + 1}
	months := api.Recur{Start: 1675155600, Unit: api.UnitMonths, Every: 1, Count: 4}
	want := list{times: []int64{1675155600 + 5*hour, 1677574800 + 5*hour, 1680253200 + 4*hour, 1682845200 + 4*hour}}
	if is := ask(table, 1, months, api.PolicyReject, whole, 9); !is.is(want) {
		t.Errorf("%v, not %v", is, want)
	}
	// 2:30 each day, from March 9 of 2024 on: on the next day there is no such time.
	gap := api.Recur{Start: 1709951400, Unit: api.UnitDays, Every: 1, Count: 3}
	for how, want := range map[int][]int64{
		api.PolicyEarly:  {1709951400 + 5*hour, 1710054000, 1710124200 + 4*hour},
		api.PolicyLate:   {1709951400 + 5*hour, 1710054000, 1710124200 + 4*hour},
		api.PolicyReject: {1709951400 + 5*hour, 1710124200 + 4*hour},
	} {
		if is := ask(table, 1, gap, how, whole, 9); !is.is(list{times: want}) {
			t.Errorf("by %d: %v, not %v", how, is, want)
		}
		if is := behind(table, 1, gap, how, want[0]); is != (next{want[1], true}) {
			t.Errorf("by %d: %v, not %d", how, is, want[1])
		}
	}
	// 1:30 each day, from November 2 of 2024 on: on the next day there are two such times.
	two := api.Recur{Start: 1730511000, Unit: api.UnitDays, Every: 1, Count: 3}
	for how, want := range map[int][]int64{
		api.PolicyEarly:  {1730511000 + 4*hour, 1730597400 + 4*hour, 1730683800 + 5*hour},
		api.PolicyLate:   {1730511000 + 4*hour, 1730597400 + 5*hour, 1730683800 + 5*hour},
		api.PolicyReject: {1730511000 + 4*hour, 1730683800 + 5*hour},
	} {
		if is := ask(table, 1, two, how, whole, 9); !is.is(list{times: want}) {
			t.Errorf("by %d: %v, not %v", how, is, want)
		}
	}
}

// dateline is a table of a zone that leaves a day and a half out, and goes back by as much.
func dateline() api.Table {
	until := func(year int) api.Until {
		u := sample.Beginning(year)
		u.At = api.At{Sec: 12 * hour, Base: api.AtUtc}
		return u
	}
	return api.Table{Zones: []api.Zone{{Name: "D", Eras: []api.Era{
		{Off: -15 * hour, Kind: api.RulesFixed, Save: -3 * hour, Format: "X", Until: until(2000)},
		{Off: 15 * hour, Kind: api.RulesFixed, Save: 3 * hour, Format: "Y", Until: until(2001)},
		{Off: -15 * hour, Kind: api.RulesFixed, Save: -3 * hour, Format: "Z"},
	}}}}
}

// Promises 54.3 and 54.4: two numbers may have one time, and all that is as far from its local time as may be is told.
func TestFar(t *testing.T) {
	table := dateline()
	gap, twice := int64(946728000), int64(978350400)
	for _, turn := range []int64{gap, twice} {
		for begin := turn - 3*day; begin <= turn+3*day; begin += hour / 2 {
			for _, late := range []int64{-1, 0, 1} {
				r := api.Recur{Start: begin + late, Unit: api.UnitDays, Every: 1, Count: 6}
				for _, how := range policies() {
					l := all(table, 0, r, how)
					for _, at := range []int64{turn - 1, turn, turn + 1, turn - day, turn + day, turn - 36*hour, turn + 36*hour} {
						for _, s := range []api.Span{{From: at, To: at + 1}, {From: minT, To: at}, {From: at, To: maxT}} {
							check(t, table, 0, r, how, s, 9, l)
						}
						firstBehind(t, table, 0, r, how, at, l)
					}
				}
			}
		}
	}
	both := api.Recur{Start: gap - 17*hour, Unit: api.UnitDays, Every: 1, Count: 2}
	if is := ask(table, 0, both, api.PolicyLate, api.Span{From: gap, To: gap + 1}, 9); !is.is(list{times: []int64{gap, gap}}) {
		t.Error(is)
	}
	if is := behind(table, 0, both, api.PolicyLate, gap); is != (next{}) {
		t.Error(is)
	}
}

// Promise 54.3: a span at both ends of all seconds, and beyond them.
func TestInEnds(t *testing.T) {
	for _, off := range []int64{-15 * hour, 0, 15 * hour} {
		for _, save := range []int64{-3 * hour, 0, 3 * hour} {
			table := api.Table{Zones: []api.Zone{{Name: "Z", Eras: []api.Era{{Off: off, Kind: api.RulesFixed, Save: save, Format: "X"}}}}}
			for _, r := range []api.Recur{
				{Start: minT, Unit: api.UnitDays, Every: 1, Count: 6}, {Start: minT + 12*hour + 1, Unit: api.UnitMonths, Every: 1, Count: 6},
				{Start: maxT - 5*day, Unit: api.UnitDays, Every: 1, Count: 12}, {Start: maxT - 40*day, Unit: api.UnitMonths, Every: 1, Count: 6}, {Start: maxT, Unit: api.UnitYears, Every: 1000, Count: 12}, {Start: maxT - 300*365*day, Unit: api.UnitYears, Every: 100, Count: 100},
			} {
				l := all(table, 0, r, api.PolicyLate)
				for _, from := range append(sample.Far(), first, last) {
					for _, to := range append(sample.Far(), first, last) {
						check(t, table, 0, r, api.PolicyLate, api.Span{From: from, To: to}, 9, l)
					}
					firstBehind(t, table, 0, r, api.PolicyLate, from, l)
				}
			}
		}
	}
}

// Promise 54.3: the errors, and which one of several.
func TestInWrong(t *testing.T) {
	table := sample.Two()
	r := api.Recur{Unit: api.UnitDays, Every: 1, Count: 9}
	s := api.Span{From: minT, To: maxT}
	nothing := api.Span{From: 5, To: 5}
	for _, bad := range append(wrong(), r) {
		for _, how := range []int{math.MinInt, -1, 0, 4, math.MaxInt, 1, 2, 3} {
			for _, zone := range []int{math.MinInt, -1, 2, math.MaxInt, 0, 1} {
				for _, during := range []api.Span{nothing, {From: 1}, s} {
					for _, most := range []int{math.MinInt, -1, 0, 1} {
						want := api.OK
						switch {
						case bad != r || how < 1 || how > 3:
							want = api.ErrForm
						case zone < 0 || zone > 1:
							want = api.ErrNone
						case during != s || most < 1:
							want = api.ErrRange
						}
						is := ask(table, zone, bad, how, during, most)
						if is.why != want || len(is.times) != 0 && want != api.OK {
							t.Fatalf("In(%d, %v, %d, %v, %d): %v, not %d", zone, bad, how, during, most, is, want)
						}
						if want == api.ErrForm || want == api.ErrNone {
							if is := behind(table, zone, bad, how, minT); is != (next{}) {
								t.Fatalf("Next(%d, %v, %d): %v", zone, bad, how, is)
							}
						}
					}
				}
			}
		}
	}
}

// Promise 54.5: a time that is not refused by PolicyReject has its local time.
func TestShown(t *testing.T) {
	random := rand.New(rand.NewSource(545))
	told := 0
	for range 200 {
		table := sample.Table(random.Intn)
		zone := random.Intn(len(table.Zones))
		r, _ := near(random, sample.Infos(table, zone))
		for k := range r.Count {
			at, why := recur.Nth(table, zone, r, k, api.PolicyReject)
			if why != api.OK {
				continue
			}
			told++
			if l, why := policy.From(table, zone, at); l != local(r, k).at || why != api.OK {
				t.Fatalf("number %d of %v in %v is %d, which shows %d, %d", k, r, table, at, l, why)
			}
		}
	}
	if told < 3000 {
		t.Error(told)
	}
}

// Promises 54.2 and 54.3: of a table that does not fit something is answered.
func TestUnfit(t *testing.T) {
	r := api.Recur{Start: -631155600, Unit: api.UnitDays, Every: 1, Count: 20}
	for _, table := range sample.Unfit() {
		for _, how := range policies() {
			recur.Nth(table, 0, r, 1, how)
			recur.In(table, 0, r, how, api.Span{From: math.MinInt64, To: math.MaxInt64}, 9)
			for _, at := range sample.Far() {
				recur.Next(table, 0, r, how, at)
			}
		}
	}
}

// Promise 54.3: what is handed in is not changed, and what is told is told anew.
func TestOwn(t *testing.T) {
	table := sample.Two()
	r := api.Recur{Unit: api.UnitDays, Every: 1, Count: 9}
	s := api.Span{From: minT, To: maxT}
	a := ask(table, 1, r, api.PolicyLate, s, 9)
	recur.Next(table, 1, r, api.PolicyLate, 0)
	recur.Nth(table, 1, r, 0, api.PolicyLate)
	b := ask(table, 1, r, api.PolicyLate, s, 9)
	a.times[0]++
	if !reflect.DeepEqual(table, sample.Two()) || a.times[0] == b.times[0] {
		t.Error(table, a, b)
	}
}

// Promise 54.3: what comes again often is not gone through from the first number on, nor are its infos found one by one.
func TestSoon(t *testing.T) {
	begin := time.Now()
	table := sample.Two()
	r := api.Recur{Unit: api.UnitDays, Every: 1, Count: 100000}
	for i := range int64(20000) {
		at := i * 5 * day
		if is := behind(table, 1, r, api.PolicyLate, at); !is.is || is.at <= at || is.at > at+2*day {
			t.Fatal(at, is)
		}
	}
	for range 5 {
		if is := ask(table, 1, r, api.PolicyLate, api.Span{From: minT, To: maxT}, math.MaxInt); len(is.times) != 100000 {
			t.Fatal(len(is.times))
		}
	}
	table = sample.Table(rand.New(rand.NewSource(546)).Intn)
	many := table.Rules
	for year := 2000; len(many) < api.MaxRules; year += 2 {
		many = append(many, api.Rule{Name: "M", From: year, To: year, Month: 3, On: api.On{Day: 1}, Save: int64(year/2%2) * hour, Letter: "S"})
	}
	wide := api.Table{Rules: many, Zones: []api.Zone{{Name: "M", Eras: []api.Era{{Kind: api.RulesNamed, Rules: "M", Format: "M%sT"}}}}}
	if is := ask(wide, 0, r, api.PolicyLate, api.Span{From: 0, To: 2000000000}, math.MaxInt); len(is.times) != 2000000000/day+1 {
		t.Fatal(len(is.times))
	}
	if took := time.Since(begin); took > 30*time.Second {
		t.Error(took)
	}
}
