package apart_test

import (
	"math"
	"math/rand"
	"slices"
	"strings"
	"testing"

	"noontide/apart"
	"noontide/api"
	"noontide/dayrule"
	"noontide/rule"
)

const (
	least   = -32767
	most    = 32767
	mostAt  = 172800
	day     = 86400
	isApart = 4 * day
)

// once is a rule of a day of a month, by its number.
func once(from, to, month, number int, sec int64) api.Rule {
	return api.Rule{Name: "A", From: from, To: to, Month: month, On: api.On{Day: number}, At: api.At{Sec: sec}}
}

func eu() api.Rule {
	return api.Rule{Name: "EU", From: 1981, To: most, Month: 3, On: api.On{Kind: api.OnLast}, At: api.At{Sec: 3600, Base: api.AtUtc}, Save: 3600, Letter: "S"}
}

// wrong are rules that may not be.
func wrong() []api.Rule {
	sets := []func(r *api.Rule){
		func(r *api.Rule) { r.Name = "" },
		func(r *api.Rule) { r.From = least - 1 },
		func(r *api.Rule) { r.From, r.To = math.MinInt, math.MaxInt },
		func(r *api.Rule) { r.From = r.To + 1 },
		func(r *api.Rule) { r.Month = 0 },
		func(r *api.Rule) { r.Month = 13 },
		func(r *api.Rule) { r.On.Kind = 4 },
		func(r *api.Rule) { r.On.Day = 1 },
		func(r *api.Rule) { r.At.Sec = -1 },
		func(r *api.Rule) { r.At.Sec = math.MaxInt64 },
		func(r *api.Rule) { r.At.Base = 3 },
		func(r *api.Rule) { r.Save = 10801 },
		func(r *api.Rule) { r.Letter = "-" },
	}
	l := []api.Rule{{}}
	for _, set := range sets {
		r := eu()
		set(&r)
		l = append(l, r)
	}
	return l
}

// lengths are how many days each month has in a year of 365.
var lengths = [13]int{0, 31, 28, 31, 30, 31, 30, 31, 31, 30, 31, 30, 31}

// window goes by the words.
func window(r api.Rule) (low, high int64) {
	from, to := r.On.Day, r.On.Day
	switch r.On.Kind {
	case api.OnLast:
		from, to = lengths[r.Month]-6, lengths[r.Month]
		if r.Month == 2 {
			to = 29
		}
	case api.OnFrom:
		to += 6
	case api.OnUpTo:
		from -= 6
	}
	days := -1
	for month := range r.Month {
		days += lengths[month]
	}
	return int64(days+from)*day + r.At.Sec, int64(days+to)*day + r.At.Sec
}

// anyRule may be, often near to a year's ends, or to the end of February.
func anyRule(random *rand.Rand, from, years int) api.Rule {
	from = min(max(from+random.Intn(years), least), most)
	month := []int{1, 12, 2, 3, 1 + random.Intn(12)}[random.Intn(5)]
	number := []int{1, lengths[month], 1 + random.Intn(lengths[month])}[random.Intn(3)]
	week := random.Intn(7)
	ons := []api.On{{Day: number}, {Kind: api.OnLast, Week: week}, {Kind: api.OnFrom, Week: week, Day: number}, {Kind: api.OnUpTo, Week: week, Day: number}}
	return api.Rule{
		Name: "A", From: from, To: min(from+random.Intn(years), most), Month: month, On: ons[random.Intn(4)],
		At: api.At{Sec: []int64{0, mostAt, random.Int63n(mostAt + 1)}[random.Intn(3)], Base: random.Intn(3)}, Save: random.Int63n(21601) - 10800,
	}
}

// Promise 27.1: windows that are known.
func TestKnownWindow(t *testing.T) {
	at := func(month int, on api.On, sec int64) api.Rule {
		return api.Rule{Name: "A", From: least, To: most, Month: month, On: on, At: api.At{Sec: sec}}
	}
	tests := []struct {
		r         api.Rule
		low, high int64
	}{
		{eu(), (59+24)*day + 3600, (59+30)*day + 3600},
		{at(1, api.On{Day: 1}, 0), 0, 0},
		{at(1, api.On{Day: 1}, mostAt), mostAt, mostAt},
		{at(12, api.On{Day: 31}, 0), 364 * day, 364 * day},
		{at(1, api.On{Kind: api.OnUpTo, Week: 3, Day: 1}, 7), -6*day + 7, 7},
		{at(12, api.On{Kind: api.OnFrom, Week: 3, Day: 31}, mostAt), 366 * day, 372 * day},
		{at(2, api.On{Kind: api.OnLast, Week: 6}, 0), (31 + 21) * day, (31 + 28) * day},
		{at(3, api.On{Day: 1}, 0), 59 * day, 59 * day},
		{at(4, api.On{Kind: api.OnLast}, 0), (90 + 23) * day, (90 + 29) * day},
	}
	for _, x := range tests {
		if low, high, why := apart.Window(x.r); low != x.low || high != x.high || why != api.OK {
			t.Errorf("Window of %v: %d, %d, %d; not %d, %d", x.r, low, high, why, x.low, x.high)
		}
	}
}

// Promise 27.1: windows of all days of all months, and of rules that may not be.
func TestWindow(t *testing.T) {
	for month := 1; month <= 12; month++ {
		for kind := range 4 {
			for number := range 32 {
				r := once(2000, 2000, month, number, int64(number))
				r.On.Kind = kind
				wantLow, wantHigh := window(r)
				why := api.OK
				if !rule.Right(r) {
					wantLow, wantHigh, why = 0, 0, api.ErrForm
				}
				if low, high, whyNot := apart.Window(r); low != wantLow || high != wantHigh || whyNot != why {
					t.Errorf("Window of %v: %d, %d, %d; not %d, %d, %d", r, low, high, whyNot, wantLow, wantHigh, why)
				}
			}
		}
	}
	for _, r := range wrong() {
		if low, high, why := apart.Window(r); low != 0 || high != 0 || why != api.ErrForm {
			t.Errorf("Window of %v: %d, %d, %d", r, low, high, why)
		}
	}
}

// comparePair asks both ways round.
func comparePair(t *testing.T, a, b api.Rule, want api.Errno) {
	t.Helper()
	if why, back := apart.Pair(a, b), apart.Pair(b, a); why != want || back != want {
		t.Errorf("Pair of %v and %v: %d, %d the other way round; not %d", a, b, why, back, want)
	}
}

// Promises 27.1 and 27.4: pairs that are known, just far enough from each other, or a second less.
func TestKnownPairs(t *testing.T) {
	on := func(kind, week, number, month int) api.Rule {
		r := once(2000, 2010, month, number, 0)
		r.On.Kind, r.On.Week = kind, week
		return r
	}
	between := func(r api.Rule, from, to int) api.Rule {
		r.From, r.To = from, to
		return r
	}
	march, april := eu(), once(1981, most, 4, 1, 3600)
	june := once(2000, 2000, 6, 10, 0)
	silvester := once(2000, 2000, 12, 31, 0)
	tests := []struct {
		a, b api.Rule
		want api.Errno
	}{
		{march, once(1981, most, 10, 25, 0), api.OK},
		{march, april, api.ErrClose},
		{between(march, 1981, 1990), between(april, 1992, most), api.OK},
		{between(march, 1981, 1990), between(april, 1991, most), api.OK},
		{between(march, 1981, 1990), between(april, 1990, 1990), api.ErrClose},
		{june, june, api.ErrClose},
		{june, once(2000, 2000, 6, 14, 0), api.OK},
		{june, once(2000, 2000, 6, 13, day-1), api.ErrClose},
		{june, once(2000, 2000, 6, 13, day), api.OK},
		{june, once(2001, 2001, 6, 10, 0), api.OK},
		{silvester, once(2001, 2001, 1, 4, 0), api.OK},
		{silvester, once(2001, 2001, 1, 3, day-1), api.ErrClose},
		{silvester, once(2000, 2000, 1, 3, 0), api.OK},
		{silvester, once(1999, 1999, 1, 3, 0), api.OK},
		{silvester, once(2002, 2002, 1, 3, 0), api.OK},
		{silvester, once(1990, 2000, 1, 3, 0), api.OK},
		{silvester, once(1990, 2001, 1, 3, 0), api.ErrClose},
		{silvester, once(2001, 2010, 1, 3, 0), api.ErrClose},
		{silvester, once(2002, 2010, 1, 3, 0), api.OK},
		{once(1990, 2010, 12, 31, 0), once(1980, 1990, 1, 1, 0), api.OK},
		{once(1990, 2010, 12, 31, 0), once(1980, 1991, 1, 1, 0), api.ErrClose},
		{once(1990, 2010, 12, 31, 0), once(2011, 2020, 1, 1, 0), api.ErrClose},
		{once(1990, 2010, 12, 31, 0), once(2012, 2020, 1, 1, 0), api.OK},
		{once(least, most, 12, 31, 0), once(least, least, 1, 1, 0), api.OK},
		{once(most, most, 12, 31, 0), once(least, most, 1, 1, 0), api.OK},
		{on(api.OnLast, 0, 0, 2), once(2000, 2010, 3, 5, 0), api.OK},
		{on(api.OnLast, 0, 0, 2), once(2000, 2010, 3, 4, day-1), api.ErrClose},
		{on(api.OnLast, 0, 0, 2), once(2000, 2010, 2, 18, 0), api.OK},
		{on(api.OnLast, 0, 0, 2), once(2000, 2010, 2, 18, 1), api.ErrClose},
		{on(api.OnFrom, 1, 8, 5), on(api.OnFrom, 5, 18, 5), api.OK},
		{on(api.OnFrom, 1, 8, 5), on(api.OnFrom, 5, 17, 5), api.ErrClose},
		{on(api.OnUpTo, 1, 8, 5), on(api.OnUpTo, 5, 18, 5), api.OK},
		{on(api.OnUpTo, 1, 8, 5), on(api.OnUpTo, 5, 17, 5), api.ErrClose},
	}
	for _, x := range tests {
		comparePair(t, x.a, x.b, x.want)
	}
	for _, r := range wrong() {
		comparePair(t, r, r, api.ErrForm)
		comparePair(t, r, eu(), api.ErrForm)
		comparePair(t, r, june, api.ErrForm)
	}
}

// pair goes by the words, year by year.
func pair(a, b api.Rule) api.Errno {
	if !rule.Right(a) || !rule.Right(b) {
		return api.ErrForm
	}
	aLow, aHigh := window(a)
	bLow, bHigh := window(b)
	for y := a.From; y <= a.To; y++ {
		for z := b.From; z <= b.To; z++ {
			if y == z && bLow-aHigh < isApart && aLow-bHigh < isApart ||
				z == y+1 && bLow+365*day-aHigh < isApart ||
				y == z+1 && aLow+365*day-bHigh < isApart {
				return api.ErrClose
			}
		}
	}
	return api.OK
}

// Promises 27.1 and 27.4: any pairs, of names that don't count.
func TestPair(t *testing.T) {
	random := rand.New(rand.NewSource(27))
	told := map[api.Errno]int{}
	for range 60000 {
		from := []int{least, -2, 1999, most - 4}[random.Intn(4)]
		a, b := anyRule(random, from, 4), anyRule(random, from, 4)
		b.Name = []string{"A", "B"}[random.Intn(2)]
		if random.Intn(20) == 0 {
			b = wrong()[random.Intn(len(wrong()))]
		}
		want := api.ErrForm
		if rule.Right(b) {
			want = pair(a, b)
		}
		comparePair(t, a, b, want)
		told[want]++
	}
	for _, why := range []api.Errno{api.OK, api.ErrClose, api.ErrForm} {
		if told[why] < 1000 {
			t.Errorf("%d was told but %d times", why, told[why])
		}
	}
}

// Promise 27.4: rules as close as may be, if years lie between: one that is far away in years is OK, either way.
func TestFarYears(t *testing.T) {
	random := rand.New(rand.NewSource(274))
	for range 3000 {
		a, b := anyRule(random, 1990, 5), anyRule(random, 1990, 5)
		length := b.To - b.From
		b.From = a.To + 2 + random.Intn(3)
		b.To = b.From + length
		comparePair(t, a, b, api.OK)
	}
}

// check goes by the words.
func check(l []api.Rule) (int, api.Errno) {
	for i, r := range l {
		for _, ahead := range l[:i] {
			if ahead.Name != r.Name {
				continue
			}
			if why := apart.Pair(ahead, r); why != api.OK {
				return i, why
			}
		}
	}
	return -1, api.OK
}

func compareCheck(t *testing.T, l []api.Rule) {
	t.Helper()
	kept := slices.Clone(l)
	want, whyNot := check(l)
	if at, why := apart.Check(l); at != want || why != whyNot {
		t.Fatalf("Check of %v: %d, %d; not %d, %d", l, at, why, want, whyNot)
	}
	if !slices.Equal(l, kept) {
		t.Fatal("the rules are changed")
	}
}

// Promise 27.2: lists that are known.
func TestKnownCheck(t *testing.T) {
	one, near, other := once(2000, 2000, 6, 1, 0), once(2000, 2000, 6, 2, 0), once(2000, 2000, 9, 1, 0)
	named := near
	named.Name = "B"
	wrong := near
	wrong.Month = 13
	nameless := wrong
	nameless.Name = ""
	tests := []struct {
		l    []api.Rule
		at   int
		want api.Errno
	}{
		{nil, -1, api.OK},
		{[]api.Rule{}, -1, api.OK},
		{[]api.Rule{one}, -1, api.OK},
		{[]api.Rule{wrong}, -1, api.OK},
		{[]api.Rule{one, other}, -1, api.OK},
		{[]api.Rule{one, near}, 1, api.ErrClose},
		{[]api.Rule{one, one}, 1, api.ErrClose},
		{[]api.Rule{one, named}, -1, api.OK},
		{[]api.Rule{one, named, other, near}, 3, api.ErrClose},
		{[]api.Rule{one, named, named, near}, 2, api.ErrClose},
		{[]api.Rule{one, wrong}, 1, api.ErrForm},
		{[]api.Rule{wrong, one}, 1, api.ErrForm},
		{[]api.Rule{named, wrong}, -1, api.OK},
		{[]api.Rule{one, near, wrong}, 1, api.ErrClose},
		{[]api.Rule{one, wrong, near}, 1, api.ErrForm},
		{[]api.Rule{wrong, named, one, near}, 2, api.ErrForm},
		{[]api.Rule{nameless, one}, -1, api.OK},
		{[]api.Rule{nameless, one, nameless}, 2, api.ErrForm},
	}
	for _, x := range tests {
		if at, why := apart.Check(x.l); at != x.at || why != x.want {
			t.Errorf("Check of %v: %d, %d; not %d, %d", x.l, at, why, x.at, x.want)
		}
		compareCheck(t, x.l)
	}
}

// Promise 27.2: of several ahead that are wrong with one the first one's error is told.
func TestFirstError(t *testing.T) {
	random := rand.New(rand.NewSource(272))
	for range 5000 {
		var l []api.Rule
		for range random.Intn(12) {
			r := anyRule(random, 2000, 2)
			r.Name = strings.Repeat("A", 1+random.Intn(3))
			if random.Intn(10) == 0 {
				r.At.Sec = -1
			}
			l = append(l, r)
		}
		compareCheck(t, l)
	}
}

// nominals are the nominal seconds of all rules, in order.
func nominals(l []api.Rule) []int64 {
	var noms []int64
	for _, r := range l {
		for year := r.From; year <= r.To; year++ {
			n, _ := dayrule.Days(r.On, year, r.Month)
			noms = append(noms, n*day+r.At.Sec)
		}
	}
	slices.Sort(noms)
	return noms
}

// Promise 27.3: rules that are as many, and as close to each other, as Check lets them be, occur Apart from each other.
func TestAsItIsMeant(t *testing.T) {
	random := rand.New(rand.NewSource(273))
	nearest := int64(math.MaxInt64)
	for range 300 {
		var l []api.Rule
		for range 120 {
			more := append(slices.Clone(l), anyRule(random, []int{1995, 2098}[random.Intn(2)], 7))
			if _, why := apart.Check(more); why == api.OK {
				l = more
			}
		}
		noms := nominals(l)
		for i := range noms[1:] {
			nearest = min(nearest, noms[i+1]-noms[i])
		}
		if nearest < isApart {
			t.Fatalf("two of %v are %d from each other", l, nearest)
		}
	}
	if nearest != isApart {
		t.Errorf("no two were nearer than %d", nearest)
	}
}

// Promise 27.2: a table's worth of rules of one name, the last one of which is too close to the first one alone.
func TestManyRules(t *testing.T) {
	var l []api.Rule
	for year := range api.MaxRules - 1 {
		l = append(l, once(year, year, 6, 1, 0))
	}
	compareCheck(t, append(l, once(0, 0, 6, 2, 0)))
	compareCheck(t, append(l, once(0, 0, 9, 2, 0)))
}
