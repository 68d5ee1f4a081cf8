package until_test

import (
	"math"
	"math/rand"
	"slices"
	"testing"
	"time"

	"noontide/api"
	"noontide/chain"
	"noontide/dayrule"
	"noontide/era"
	"noontide/occur"
	"noontide/until"
)

const (
	hour    = 3600
	day     = 86400
	isApart = 4 * day
	isNear  = 2 * day
	fifty   = -631152000 // January 1 of 1950
)

func us() []api.Rule {
	return []api.Rule{
		{Name: "US", From: 2007, To: api.MaxYear, Month: 3, On: api.On{Kind: api.OnFrom, Day: 8}, At: api.At{Sec: 7200}, Save: hour, Letter: "D"},
		{Name: "US", From: 2007, To: api.MaxYear, Month: 11, On: api.On{Kind: api.OnFrom, Day: 1}, At: api.At{Sec: 7200}, Letter: "S"},
	}
}

// end is a day of a month, and a second of it.
func end(year, month, number int, sec int64, base int) api.Until {
	return api.Until{Has: true, Year: year, Month: month, On: api.On{Day: number}, At: api.At{Sec: sec, Base: base}}
}

func none(off int64, u api.Until) api.Era {
	return api.Era{Off: off, Format: "X", Until: u}
}

func fixed(off, save int64, u api.Until) api.Era {
	return api.Era{Off: off, Kind: api.RulesFixed, Save: save, Format: "X", Until: u}
}

func named(off int64, name string, u api.Until) api.Era {
	return api.Era{Off: off, Kind: api.RulesNamed, Rules: name, Format: "E%sT", Until: u}
}

func zone(eras ...api.Era) api.Zone {
	return api.Zone{Name: "Z", Eras: eras}
}

// endAt is an end by universal time, whose instant is t.
func endAt(t int64) api.Until {
	at := time.Unix(t, 0).UTC()
	return end(at.Year(), int(at.Month()), at.Day(), int64(at.Hour()*hour+at.Minute()*60+at.Second()), api.AtUtc)
}

// wrongEnds are ends that may not be.
func wrongEnds() []api.Until {
	sets := []func(u *api.Until){
		func(u *api.Until) { u.Year = api.MinYear },
		func(u *api.Until) { u.Year = api.MaxYear },
		func(u *api.Until) { u.Year = math.MinInt },
		func(u *api.Until) { u.Year = math.MaxInt },
		func(u *api.Until) { u.Month = 0 },
		func(u *api.Until) { u.Month = 13 },
		func(u *api.Until) { u.On.Day = 32 },
		func(u *api.Until) { u.On.Kind = 4 },
		func(u *api.Until) { u.On.Week = 1 },
		func(u *api.Until) { u.At.Sec = -1 },
		func(u *api.Until) { u.At.Sec = 172801 },
		func(u *api.Until) { u.At.Sec = math.MaxInt64 },
		func(u *api.Until) { u.At.Base = 3 },
		func(u *api.Until) { u.At.Base = -1 },
	}
	var l []api.Until
	for _, set := range sets {
		u := end(1950, 1, 1, 0, api.AtWall)
		set(&u)
		l = append(l, u)
	}
	return l
}

// wrongEras are eras that may not be, though their ends may.
func wrongEras(u api.Until) []api.Era {
	return []api.Era{
		{Until: u},
		none(54001, u),
		none(-54001, u),
		{Save: 1, Format: "X", Until: u},
		{Rules: "A", Format: "X", Until: u},
		{Kind: 3, Format: "X", Until: u},
		{Kind: -1, Format: "X", Until: u},
		fixed(0, 10801, u),
		fixed(0, -10801, u),
		{Kind: api.RulesFixed, Rules: "A", Format: "X", Until: u},
		named(0, "", u),
		named(0, "1", u),
		{Kind: api.RulesNamed, Save: 1, Rules: "A", Format: "X", Until: u},
		{Format: "a/b/c", Until: u},
		{Format: "aaaaaaaaaaaaaaaaa", Until: u},
	}
}

// Promise 28.1: nominal seconds of ends that are known.
func TestNom(t *testing.T) {
	tests := []struct {
		u   api.Until
		nom int64
	}{
		{end(1950, 1, 1, 0, api.AtWall), fifty},
		{end(1970, 1, 1, 0, api.AtUtc), 0},
		{end(1970, 1, 2, 5, api.AtStd), day + 5},
		{end(1969, 12, 31, 172800, api.AtWall), day},
		{api.Until{Has: true, Year: 2024, Month: 10, On: api.On{Kind: api.OnLast}, At: api.At{Sec: 7200, Base: api.AtUtc}}, 1729994400},
		{api.Until{Has: true, Year: 2024, Month: 12, On: api.On{Kind: api.OnFrom, Week: 1, Day: 31}}, 1736121600},
		{api.Until{Has: true, Year: 1970, Month: 1, On: api.On{Kind: api.OnUpTo, Week: 5, Day: 1}}, -6 * day},
		{end(api.MinYear+1, 1, 1, 0, api.AtWall), api.MinT + 365*day},
		{end(api.MaxYear-1, 12, 31, 86399, api.AtWall), api.MaxT - 365*day},
	}
	for _, x := range tests {
		if nom, why := until.Nom(x.u); nom != x.nom || why != api.OK {
			t.Errorf("Nom of %v: %d, %d; not %d", x.u, nom, why, x.nom)
		}
	}
}

// Promise 28.1: ends that may not be, and, ahead of that, such as are not there.
func TestNomErrors(t *testing.T) {
	compare := func(u api.Until, want api.Errno) {
		t.Helper()
		if nom, why := until.Nom(u); nom != 0 || why != want {
			t.Errorf("Nom of %v: %d, %d; not 0, %d", u, nom, why, want)
		}
	}
	compare(api.Until{}, api.ErrNone)
	compare(api.Until{Has: true}, api.ErrForm)
	for _, u := range wrongEnds() {
		compare(u, api.ErrForm)
		u.Has = false
		compare(u, api.ErrNone)
	}
}

// Promise 28.1: the instants of the ends of eras of each kind, by each clock.
func TestKnownInstants(t *testing.T) {
	at := func(base int) api.Until { return end(1950, 1, 1, 0, base) }
	summer, winter := end(2024, 7, 1, 0, api.AtWall), end(2024, 12, 1, 0, api.AtWall)
	tests := []struct {
		e  api.Era
		at int64
	}{
		{none(hour, at(api.AtWall)), fifty - hour},
		{none(hour, at(api.AtStd)), fifty - hour},
		{none(hour, at(api.AtUtc)), fifty},
		{fixed(hour, hour, at(api.AtWall)), fifty - 2*hour},
		{fixed(hour, hour, at(api.AtStd)), fifty - hour},
		{fixed(hour, hour, at(api.AtUtc)), fifty},
		{fixed(-54000, -10800, at(api.AtWall)), fifty + 64800},
		{fixed(54000, 10800, at(api.AtWall)), fifty - 64800},
		{named(-5*hour, "US", at(api.AtWall)), fifty + 5*hour},
		{named(-5*hour, "US", summer), 1719792000 + 4*hour},
		{named(-5*hour, "US", winter), 1733011200 + 5*hour},
		{named(-5*hour, "none", summer), 1719792000 + 5*hour},
		{named(-5*hour, "US", end(2024, 7, 1, 0, api.AtStd)), 1719792000 + 5*hour},
		{named(-5*hour, "US", end(2024, 7, 1, 0, api.AtUtc)), 1719792000},
		// What occurs at the very second that the clock shows is not ahead of it yet.
		{named(-5*hour, "US", end(2024, 3, 10, 7200, api.AtWall)), 1710036000 + 5*hour},
		{named(-5*hour, "US", end(2024, 3, 10, 7201, api.AtWall)), 1710036001 + 4*hour},
		{named(-5*hour, "US", end(2024, 11, 3, 7200, api.AtWall)), 1730599200 + 4*hour},
		{named(-5*hour, "US", end(2024, 11, 3, 7201, api.AtWall)), 1730599201 + 5*hour},
	}
	for _, x := range tests {
		if got, why := until.Instant(us(), x.e); got != x.at || why != api.OK {
			t.Errorf("Instant of %v: %d, %d; not %d", x.e, got, why, x.at)
		}
	}
}

// Promise 28.1: an era that may not be, and, behind that, one that has no end.
func TestInstantErrors(t *testing.T) {
	compare := func(e api.Era, want api.Errno) {
		t.Helper()
		if at, why := until.Instant(us(), e); at != 0 || why != want {
			t.Errorf("Instant of %v: %d, %d; not 0, %d", e, at, why, want)
		}
	}
	for _, e := range []api.Era{none(hour, api.Until{}), fixed(hour, hour, api.Until{}), named(hour, "US", api.Until{})} {
		compare(e, api.ErrNone)
		for _, u := range wrongEnds() {
			e.Until = u
			compare(e, api.ErrForm)
			e.Until.Has = false
			compare(e, api.ErrForm)
		}
	}
	for _, u := range []api.Until{{}, end(1950, 1, 1, 0, api.AtWall)} {
		for _, e := range wrongEras(u) {
			compare(e, api.ErrForm)
		}
	}
}

// Promise 28.2: the ends of zones, in order of the eras, whatever their instants are.
func TestEnds(t *testing.T) {
	first, second, last := none(hour, end(1950, 1, 1, 0, 0)), fixed(hour, hour, end(1940, 1, 1, 0, api.AtStd)), named(0, "US", api.Until{})
	summer := named(-5*hour, "US", end(2024, 7, 1, 0, 0))
	tests := []struct {
		z    api.Zone
		want []int64
	}{
		{zone(last), []int64{}},
		{zone(first, last), []int64{fifty - hour}},
		{zone(first, second, summer, last), []int64{fifty - hour, -946771200 - hour, 1719792000 + 4*hour}},
		{api.Zone{Eras: []api.Era{first, first, last}}, []int64{fifty - hour, fifty - hour}},
	}
	for _, x := range tests {
		if ends, why := until.Ends(us(), x.z); !slices.Equal(ends, x.want) || why != api.OK {
			t.Errorf("Ends of %v: %v, %d; not %v", x.z, ends, why, x.want)
		}
	}
}

// Promises 28.2 and 28.3: zones whose eras may not be so.
func TestWrongZones(t *testing.T) {
	first, last := none(hour, end(1950, 1, 1, 0, 0)), none(0, api.Until{})
	zones := []api.Zone{{}, zone(), zone(first), zone(first, first), zone(last, last), zone(last, first), zone(first, last, last), zone(first, last, first)}
	for _, e := range wrongEras(first.Until) {
		zones = append(zones, zone(e, last), zone(first, e, last), zone(e))
	}
	for _, e := range wrongEras(api.Until{}) {
		zones = append(zones, zone(e), zone(first, e))
	}
	for _, u := range wrongEnds() {
		e := none(0, u)
		zones = append(zones, zone(e), zone(e, last), zone(first, e), zone(first, e, last))
		u.Has = false
		e = none(0, u)
		zones = append(zones, zone(e), zone(e, last), zone(first, e))
	}
	for _, z := range zones {
		if ends, why := until.Ends(us(), z); len(ends) != 0 || why != api.ErrForm {
			t.Errorf("Ends of %v: %v, %d", z, ends, why)
		}
		if at, why := until.Check(us(), z); at != -1 || why != api.ErrForm {
			t.Errorf("Check of %v: %d, %d", z, at, why)
		}
	}
}

func compareCheck(t *testing.T, rules []api.Rule, z api.Zone, want int, whyNot api.Errno) {
	t.Helper()
	if at, why := until.Check(rules, z); at != want || why != whyNot {
		t.Fatalf("Check of %v with %v: %d, %d; not %d, %d", z, rules, at, why, want, whyNot)
	}
}

// Promise 28.3: ends that are in order, or not, and far enough from each other, or a second less.
func TestCheckEnds(t *testing.T) {
	last := none(0, api.Until{})
	first := none(0, end(1950, 1, 10, 0, api.AtUtc))
	at := func(number int, sec int64) api.Era { return none(0, end(1950, 1, number, sec, api.AtUtc)) }
	tests := []struct {
		eras []api.Era
		at   int
		want api.Errno
	}{
		{nil, -1, api.OK},
		{[]api.Era{first}, -1, api.OK},
		{[]api.Era{first, at(14, 0)}, -1, api.OK},
		{[]api.Era{first, at(13, day-1)}, 1, api.ErrClose},
		{[]api.Era{first, at(13, day)}, -1, api.OK},
		{[]api.Era{first, at(10, 1)}, 1, api.ErrClose},
		{[]api.Era{first, at(10, 0)}, 1, api.ErrOrder},
		{[]api.Era{first, at(9, day-1)}, 1, api.ErrOrder},
		{[]api.Era{first, at(1, 0)}, 1, api.ErrOrder},
		{[]api.Era{at(1, 0), at(20, 0), at(20, 0), at(10, 0)}, 2, api.ErrOrder},
		{[]api.Era{at(1, 0), at(20, 0), at(22, 0), at(22, 0)}, 2, api.ErrClose},
		{[]api.Era{at(1, 0), at(20, 0), at(24, 0), at(1, 0)}, 3, api.ErrOrder},
		// The instants count, not what the clocks show.
		{[]api.Era{first, none(hour, end(1950, 1, 14, 0, api.AtWall))}, 1, api.ErrClose},
		{[]api.Era{first, none(-hour, end(1950, 1, 13, 23*hour, api.AtWall))}, -1, api.OK},
	}
	for _, x := range tests {
		compareCheck(t, nil, zone(append(slices.Clone(x.eras), last)...), x.at, x.want)
	}
}

// Promise 28.3: what a rule does near to an end, as far as it may be, or a second less, or just there; ahead of it in the era, behind it in the next one.
func TestCheckRules(t *testing.T) {
	rules := []api.Rule{{Name: "A", From: 2000, To: 2000, Month: 6, On: api.On{Day: 10}, At: api.At{Base: api.AtUtc}, Save: hour}}
	has, has2 := named(0, "A", api.Until{}), named(54000, "A", api.Until{})
	not, other := none(0, api.Until{}), named(0, "B", api.Until{})
	const change = 960595200 // June 10 of 2000
	ask := func(e, next api.Era, later int64, want api.Errno) {
		t.Helper()
		e.Until = endAt(change + later)
		at := -1
		if want != api.OK {
			at = 0
		}
		compareCheck(t, rules, zone(e, next), at, want)
		// Ends that are neither the first nor the last one are told alike.
		early, late := none(0, end(1999, 1, 1, 0, api.AtUtc)), none(0, end(2001, 1, 1, 0, api.AtUtc))
		if want != api.OK {
			at = 1
		}
		compareCheck(t, rules, zone(early, e, next), at, want)
		next.Until = late.Until
		compareCheck(t, rules, zone(early, e, next, not), at, want)
	}
	for steps := range 2*6*24 + 1 {
		for _, more := range []int64{-1, 0, 1} {
			later := int64(steps)*hour/2 - 3*day + more
			ahead, behind := api.OK, api.OK
			if later > 0 && later < isNear {
				ahead = api.ErrClose
			}
			if later < 0 && -later < isNear {
				behind = api.ErrClose
			}
			ask(has, not, later, ahead)
			ask(has2, other, later, ahead)
			ask(not, has, later, behind)
			ask(other, has2, later, behind)
			ask(has, has2, later, max(ahead, behind))
			ask(not, other, later, api.OK)
			ask(fixed(hour, hour, api.Until{}), fixed(0, 0, api.Until{}), later, api.OK)
		}
	}
}

// Promise 28.3: the instant of what occurs is that under the Off of the era that has the rules.
func TestCheckOffs(t *testing.T) {
	rules := []api.Rule{{Name: "A", From: 2000, To: 2000, Month: 6, On: api.On{Day: 10}, At: api.At{Base: api.AtStd}, Save: hour}}
	tests := []struct {
		e, next api.Era
		at      int
	}{
		{named(10*hour, "A", end(2000, 6, 11, 14*hour, api.AtUtc)), none(0, api.Until{}), -1},
		{named(10*hour, "A", end(2000, 6, 11, 14*hour-1, api.AtUtc)), none(0, api.Until{}), 0},
		{named(-10*hour, "A", end(2000, 6, 12, 10*hour, api.AtUtc)), none(0, api.Until{}), -1},
		{named(-10*hour, "A", end(2000, 6, 12, 10*hour-1, api.AtUtc)), none(0, api.Until{}), 0},
		{none(0, end(2000, 6, 7, 14*hour, api.AtUtc)), named(10*hour, "A", api.Until{}), -1},
		{none(0, end(2000, 6, 7, 14*hour+1, api.AtUtc)), named(10*hour, "A", api.Until{}), 0},
		{none(0, end(2000, 6, 8, 10*hour, api.AtUtc)), named(-10*hour, "A", api.Until{}), -1},
		{none(0, end(2000, 6, 8, 10*hour+1, api.AtUtc)), named(-10*hour, "A", api.Until{}), 0},
		{named(10*hour, "A", end(2000, 6, 9, 14*hour, api.AtUtc)), named(10*hour, "A", api.Until{}), -1},
		{named(10*hour, "A", end(2000, 6, 9, 14*hour, api.AtUtc)), named(9*hour, "A", api.Until{}), 0},
		{named(11*hour, "A", end(2000, 6, 9, 14*hour, api.AtUtc)), named(10*hour, "A", api.Until{}), 0},
		{named(9*hour, "A", end(2000, 6, 9, 14*hour, api.AtUtc)), named(11*hour, "A", api.Until{}), -1},
	}
	for _, x := range tests {
		want := api.OK
		if x.at == 0 {
			want = api.ErrClose
		}
		compareCheck(t, rules, zone(x.e, x.next), x.at, want)
	}
}

// anyRules are rules of a name that occur in the same days of June of some years, or in July.
func anyRules(random *rand.Rand) []api.Rule {
	var l []api.Rule
	for range random.Intn(6) {
		from := 2000 + random.Intn(3)
		l = append(l, api.Rule{
			Name: []string{"A", "A", "B"}[random.Intn(3)], From: from, To: from + random.Intn(3), Month: 6 + random.Intn(8)/7, On: api.On{Day: 9 + random.Intn(2)},
			At: api.At{Sec: random.Int63n(172801), Base: random.Intn(3)}, Save: []int64{0, hour, -10800, 10800, 10801}[random.Intn(5)],
		})
	}
	return l
}

// anyEra ends near to where rules occur, or in the same days of later months.
func anyEra(random *rand.Rand, place int) api.Era {
	off := []int64{0, 54000, -54000, random.Int63n(108001) - 54000}[random.Intn(4)]
	u := end(2000+random.Intn(3), 6+random.Intn(2)*place, 1+random.Intn(20), random.Int63n(172801), random.Intn(3))
	switch random.Intn(5) {
	case 0:
		return none(off, u)
	case 1:
		return fixed(off, random.Int63n(21601)-10800, u)
	case 2:
		return named(off, "B", u)
	}
	return named(off, "A", u)
}

// instant goes by the words.
func instant(rules []api.Rule, e api.Era) int64 {
	n, _ := dayrule.Days(e.Until.On, e.Until.Year, e.Until.Month)
	nom := n*day + e.Until.At.Sec
	save := e.Save
	for _, o := range all(rules, e.Rules) {
		if o.Nom < nom {
			save = rules[o.Rule].Save
		}
	}
	return nom - []int64{e.Off + save, e.Off, 0}[e.Until.At.Base]
}

func all(rules []api.Rule, name string) []api.Occur {
	return occur.In(rules, name, api.Span{From: math.MinInt64, To: math.MaxInt64}, math.MaxInt)
}

// instants are those of all that occurs in an era.
func instants(rules []api.Rule, e api.Era) []int64 {
	var l []int64
	for _, o := range all(rules, e.Rules) {
		at, _ := chain.Instant(rules, e.Rules, e.Off, o)
		l = append(l, at)
	}
	return l
}

// check goes by the words.
func check(rules []api.Rule, z api.Zone) (int, api.Errno) {
	for i, e := range z.Eras[:len(z.Eras)-1] {
		at := instant(rules, e)
		if i > 0 {
			ahead := instant(rules, z.Eras[i-1])
			if at <= ahead {
				return i, api.ErrOrder
			}
			if at-ahead < isApart {
				return i, api.ErrClose
			}
		}
		for _, change := range instants(rules, e) {
			if change < at && at-change < isNear {
				return i, api.ErrClose
			}
		}
		for _, change := range instants(rules, z.Eras[i+1]) {
			if change > at && change-at < isNear {
				return i, api.ErrClose
			}
		}
	}
	return -1, api.OK
}

// Promises 28.1 to 28.4: any zones and any rules, whose instants are often not in order, and wrong ones among them.
func TestAny(t *testing.T) {
	random := rand.New(rand.NewSource(28))
	told := map[api.Errno]int{}
	for range 40000 {
		rules := anyRules(random)
		var eras []api.Era
		for place := range 1 + random.Intn(4) {
			eras = append(eras, anyEra(random, place))
		}
		eras[len(eras)-1].Until = api.Until{}
		z := zone(eras...)
		kept, keptRules := slices.Clone(eras), slices.Clone(rules)
		ends, why := until.Ends(rules, z)
		if why != api.OK || len(ends) != len(eras)-1 {
			t.Fatalf("Ends of %v: %v, %d", z, ends, why)
		}
		for i, end := range ends {
			want := instant(rules, eras[i])
			if at, why := until.Instant(rules, eras[i]); at != want || why != api.OK || end != want {
				t.Fatalf("Instant of %v with %v: %d, %d, and %d; not %d", eras[i], rules, at, why, end, want)
			}
		}
		at, why := check(rules, z)
		compareCheck(t, rules, z, at, why)
		told[why]++
		for i := range ends {
			if why == api.OK && i > 0 && ends[i]-ends[i-1] < isApart {
				t.Fatalf("the ends of %v with %v are %v", z, rules, ends)
			}
		}
		if !slices.Equal(eras, kept) || !slices.Equal(rules, keptRules) {
			t.Fatal("what was handed in is changed")
		}
	}
	for _, why := range []api.Errno{api.OK, api.ErrClose, api.ErrOrder} {
		if told[why] < 2000 {
			t.Errorf("%d was told but %d times", why, told[why])
		}
	}
}

// Promise 28.3: occurrences whose nominal seconds are as far from their instants, either way, as they may be.
func TestFarthest(t *testing.T) {
	for _, off := range []int64{54000, -54000} {
		var rules []api.Rule
		for _, year := range []int{1999, 2000} {
			rules = append(rules, api.Rule{Name: "A", From: year, To: year, Month: 6, On: api.On{Day: 10}, Save: off / 5})
		}
		change, _ := chain.Instant(rules, "A", off, all(rules, "A")[1])
		for _, later := range []int64{isNear, isNear - 1, 1, 0, -1, 1 - isNear, -isNear} {
			first, next := named(off, "A", endAt(change+later)), none(0, api.Until{})
			if later > 0 && later < isNear {
				compareCheck(t, rules, zone(first, next), 0, api.ErrClose)
			} else {
				compareCheck(t, rules, zone(first, next), -1, api.OK)
			}
			first, next = none(0, endAt(change+later)), named(off, "A", api.Until{})
			if later < 0 && -later < isNear {
				compareCheck(t, rules, zone(first, next), 0, api.ErrClose)
			} else {
				compareCheck(t, rules, zone(first, next), -1, api.OK)
			}
		}
	}
}

// Promise 28.1: an end is one that an era may have, whatever else of the era is.
func TestEndsOfEras(t *testing.T) {
	for _, u := range append(wrongEnds(), end(1950, 1, 1, 0, 0), end(2000, 2, 28, 172800, 2), end(api.MinYear+1, 12, 31, 0, 1)) {
		_, why := until.Nom(u)
		if right := era.Right(none(0, u)); right != (why == api.OK) {
			t.Errorf("%v may be: %t; Nom tells %d", u, right, why)
		}
	}
}

// The examples.
func TestExamples(t *testing.T) {
	u := end(1950, 1, 1, 0, api.AtWall)
	for _, x := range []struct {
		e  api.Era
		at int64
	}{{none(hour, u), -631155600}, {fixed(hour, hour, u), -631159200}, {none(hour, end(1950, 1, 1, 0, api.AtStd)), -631155600}} {
		if at, why := until.Instant(nil, x.e); at != x.at || why != api.OK {
			t.Errorf("Instant of %v: %d, %d; not %d", x.e, at, why, x.at)
		}
	}
}
