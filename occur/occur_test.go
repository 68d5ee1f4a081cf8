package occur_test

import (
	"math"
	"math/rand"
	"slices"
	"testing"
	"time"

	"noontide/api"
	"noontide/occur"
	"noontide/rule"
)

const (
	least  = -32767
	most   = 32767
	mostAt = 172800
	day    = 86400
)

// eu is a rule that there was.
func eu() api.Rule {
	return api.Rule{Name: "EU", From: 1981, To: most, Month: 3, On: api.On{Kind: api.OnLast}, At: api.At{Sec: 3600, Base: api.AtUtc}, Save: 3600, Letter: "S"}
}

// us are rules of two changes a year.
func us() []api.Rule {
	return []api.Rule{
		{Name: "US", From: 2007, To: most, Month: 3, On: api.On{Kind: api.OnFrom, Day: 8}, At: api.At{Sec: 7200}, Save: 3600, Letter: "D"},
		{Name: "US", From: 2007, To: most, Month: 11, On: api.On{Kind: api.OnFrom, Day: 1}, At: api.At{Sec: 7200}, Letter: "S"},
	}
}

// nominal goes by the words, day by day along Go's calendar.
func nominal(r api.Rule, year int) int64 {
	first := time.Date(year, time.Month(r.Month), 1, 0, 0, 0, 0, time.UTC)
	named, step := first.AddDate(0, 0, r.On.Day-1), 0
	switch r.On.Kind {
	case api.OnLast:
		named, step = first.AddDate(0, 1, -1), -1
	case api.OnFrom:
		step = 1
	case api.OnUpTo:
		step = -1
	}
	for step != 0 && int(named.Weekday()) != r.On.Week {
		named = named.AddDate(0, 0, step)
	}
	return named.Unix() + r.At.Sec
}

// isAhead goes by the words.
func isAhead(a, b api.Occur) bool {
	return a.Nom < b.Nom || a.Nom == b.Nom && a.Rule < b.Rule
}

// all are all occurrences of a name, in order.
func all(l []api.Rule, name string) []api.Occur {
	var of []api.Occur
	for place, r := range l {
		for year := r.From; r.Name == name && rule.Right(r) && year <= r.To; year++ {
			of = append(of, api.Occur{Rule: place, Year: year, Nom: nominal(r, year)})
		}
	}
	slices.SortFunc(of, func(a, b api.Occur) int {
		switch {
		case isAhead(a, b):
			return -1
		case isAhead(b, a):
			return 1
		}
		return 0
	})
	return of
}

// wrong are rules that may not be, which would occur often.
func wrong() []api.Rule {
	sets := []func(r *api.Rule){
		func(r *api.Rule) { r.Name = "" },
		func(r *api.Rule) { r.Name = "1" },
		func(r *api.Rule) { r.From = least - 1 },
		func(r *api.Rule) { r.From = math.MinInt },
		func(r *api.Rule) { r.From = r.To + 1 },
		func(r *api.Rule) { r.From = math.MaxInt },
		func(r *api.Rule) { r.To = most + 1 },
		func(r *api.Rule) { r.To = math.MaxInt },
		func(r *api.Rule) { r.To = r.From - 1 },
		func(r *api.Rule) { r.To = math.MinInt },
		func(r *api.Rule) { r.From, r.To = math.MinInt, math.MaxInt },
		func(r *api.Rule) { r.From, r.To = math.MaxInt, math.MinInt },
		func(r *api.Rule) { r.Month = 0 },
		func(r *api.Rule) { r.Month = 13 },
		func(r *api.Rule) { r.On.Day = 1 },
		func(r *api.Rule) { r.On = api.On{Day: 32} },
		func(r *api.Rule) { r.Month, r.On = 2, api.On{Day: 29} },
		func(r *api.Rule) { r.On.Week = 7 },
		func(r *api.Rule) { r.On.Kind = 4 },
		func(r *api.Rule) { r.At.Sec = -1 },
		func(r *api.Rule) { r.At.Sec = mostAt + 1 },
		func(r *api.Rule) { r.At.Sec = math.MinInt64 },
		func(r *api.Rule) { r.At.Sec = math.MaxInt64 },
		func(r *api.Rule) { r.At.Base = 3 },
		func(r *api.Rule) { r.At.Base = -1 },
		func(r *api.Rule) { r.Save = 10801 },
		func(r *api.Rule) { r.Save = -10801 },
		func(r *api.Rule) { r.Letter = "-" },
		func(r *api.Rule) { r.Letter = "abcdefg" },
	}
	l := []api.Rule{{}, {Name: "EU"}}
	for _, set := range sets {
		r := eu()
		set(&r)
		l = append(l, r)
	}
	return l
}

// anyOn is a name of a day that fits a month, often one whose day lies, or may lie, outside.
func anyOn(random *rand.Rand, month int) api.On {
	days := [13]int{0, 31, 28, 31, 30, 31, 30, 31, 31, 30, 31, 30, 31}[month]
	number := []int{1, 2, 7, 8, days - 1, days, 1 + random.Intn(days)}[random.Intn(7)]
	week := random.Intn(7)
	return []api.On{{Day: number}, {Kind: api.OnLast, Week: week}, {Kind: api.OnFrom, Week: week, Day: number}, {Kind: api.OnUpTo, Week: week, Day: number}}[random.Intn(4)]
}

// anyRule may be, of a name, and of some years behind one.
func anyRule(random *rand.Rand, name string, from, years int) api.Rule {
	from = min(max(from+random.Intn(years), least), most)
	month := []int{1, 12, 1 + random.Intn(12)}[random.Intn(3)]
	sec := []int64{0, mostAt, day, 7200, random.Int63n(mostAt + 1)}[random.Intn(5)]
	return api.Rule{
		Name: name, From: from, To: min(from+random.Intn(years), most), Month: month, On: anyOn(random, month),
		At: api.At{Sec: sec, Base: random.Intn(3)}, Save: random.Int63n(21601) - 10800, Letter: []string{"", "S"}[random.Intn(2)],
	}
}

// anyRules are some rules of a name, among others and wrong ones; some are there twice, so that they occur at the same seconds.
func anyRules(random *rand.Rand, name string) []api.Rule {
	from := []int{least - 2, -3, 1966, 2020, most - 6}[random.Intn(5)]
	var l []api.Rule
	for range random.Intn(9) {
		switch random.Intn(8) {
		case 0:
			l = append(l, anyRule(random, "other", from, 6))
		case 1:
			l = append(l, wrong()[random.Intn(len(wrong()))])
		default:
			l = append(l, anyRule(random, name, from, 1+random.Intn(6)))
		}
		if random.Intn(4) == 0 {
			l = append(l, l[random.Intn(len(l))])
		}
	}
	random.Shuffle(len(l), func(i, k int) { l[i], l[k] = l[k], l[i] })
	return l
}

// Promise 25.1: nominal seconds that are known.
func TestKnownNom(t *testing.T) {
	at := func(on api.On, month int, sec int64) api.Rule {
		return api.Rule{Name: "A", From: least, To: most, Month: month, On: on, At: api.At{Sec: sec}}
	}
	tests := []struct {
		r    api.Rule
		year int
		nom  int64
	}{
		{eu(), 2024, 1711846800},
		{eu(), 1981, 354675600},
		{us()[0], 2024, 1710036000},
		{us()[1], 2024, 1730599200},
		{at(api.On{Day: 1}, 1, 0), 1970, 0},
		{at(api.On{Day: 1}, 1, mostAt), 1970, mostAt},
		{at(api.On{Day: 31}, 12, mostAt), 1969, day},
		{at(api.On{Kind: api.OnUpTo, Week: 5, Day: 1}, 1, 1), 1970, -6*day + 1},
		{at(api.On{Kind: api.OnFrom, Week: 2, Day: 31}, 12, mostAt), 1969, 7 * day},
		{at(api.On{Kind: api.OnLast, Week: 4}, 2, 0), 2024, 1709164800},
		{at(api.On{Day: 1}, 1, 0), least, api.MinT},
		{at(api.On{Day: 31}, 12, day-1), most, api.MaxT},
		{at(api.On{Day: 31}, 12, mostAt), most, api.MaxT + 1 + day},
	}
	for _, x := range tests {
		for base := range 3 {
			x.r.At.Base = base
			if nom, why := occur.Nom(x.r, x.year); nom != x.nom || why != api.OK {
				t.Errorf("Nom of %v in %d: %d, %d; not %d", x.r, x.year, nom, why, x.nom)
			}
		}
	}
}

// Promise 25.1: any rules, in their first and last years and all around; and such as may not be, in any year.
func TestNom(t *testing.T) {
	random := rand.New(rand.NewSource(25))
	for range 5000 {
		r := anyRule(random, "EU", []int{least, 0, 2000, most - 9}[random.Intn(4)], 9)
		for _, year := range []int{r.From - 1, r.From, r.From + random.Intn(r.To-r.From+1), r.To, r.To + 1, math.MinInt, math.MaxInt, r.From + 1<<32} {
			want, whyNot := int64(0), api.ErrRange
			if year >= r.From && year <= r.To {
				want, whyNot = nominal(r, year), api.OK
			}
			if nom, why := occur.Nom(r, year); nom != want || why != whyNot {
				t.Fatalf("Nom of %v in %d: %d, %d; not %d, %d", r, year, nom, why, want, whyNot)
			}
		}
	}
	for _, r := range wrong() {
		for _, year := range []int{2000, r.From, r.To, r.From - 1, r.To + 1, 0, least, most} {
			if nom, why := occur.Nom(r, year); nom != 0 || why != api.ErrForm {
				t.Errorf("Nom of %v in %d: %d, %d", r, year, nom, why)
			}
		}
	}
}

// Promise 25.1: by Nom, then by Rule, and by nothing else.
func TestLess(t *testing.T) {
	noms := []int64{math.MinInt64, -1, 0, 1, math.MaxInt64}
	places := []int{math.MinInt, -1, 0, 1, math.MaxInt}
	var l []api.Occur
	for _, nom := range noms {
		for _, place := range places {
			l = append(l, api.Occur{Nom: nom, Rule: place})
		}
	}
	for i, a := range l {
		for k, b := range l {
			for _, years := range [][2]int{{0, 0}, {1, 2}, {2, 1}} {
				a.Year, b.Year = years[0], years[1]
				if occur.Less(a, b) != (i < k) {
					t.Errorf("%v is ahead of %v: %t", a, b, i >= k)
				}
			}
		}
	}
}

// around are things at, ahead of, and behind occurrences, and far from all; their years don't count.
func around(of []api.Occur) []api.Occur {
	var l []api.Occur
	for _, nom := range []int64{math.MinInt64, math.MinInt64 + 1, api.MinT - 1, api.MinT, -1, 0, 1, api.MaxT, api.MaxT + 1, math.MaxInt64 - 1, math.MaxInt64} {
		l = append(l, api.Occur{Nom: nom}, api.Occur{Nom: nom, Rule: math.MaxInt}, api.Occur{Nom: nom, Rule: math.MinInt})
	}
	for _, o := range of {
		for _, place := range []int{o.Rule, o.Rule - 1, o.Rule + 1, math.MinInt, math.MaxInt} {
			l = append(l, api.Occur{Nom: o.Nom, Rule: place, Year: o.Year})
		}
		for _, far := range []int64{1, day, 8 * day, 180 * day, 366 * day} {
			l = append(l, api.Occur{Nom: o.Nom - far, Rule: math.MaxInt}, api.Occur{Nom: o.Nom + far, Rule: math.MinInt, Year: math.MaxInt})
		}
	}
	return l
}

// compare asks Next and Prev of from; of are the occurrences of the name.
func compare(t *testing.T, l []api.Rule, name string, of []api.Occur, from api.Occur) {
	t.Helper()
	ahead, _ := slices.BinarySearchFunc(of, from, func(o, from api.Occur) int {
		if isAhead(o, from) {
			return -1
		}
		return 1
	})
	behind := ahead
	if behind < len(of) && !isAhead(from, of[behind]) {
		behind++
	}
	var prev, next api.Occur
	if ahead > 0 {
		prev = of[ahead-1]
	}
	if behind < len(of) {
		next = of[behind]
	}
	if o, ok := occur.Prev(l, name, from); o != prev || ok != (ahead > 0) {
		t.Fatalf("Prev of %v in %v: %v, %t; not %v", from, l, o, ok, prev)
	}
	if o, ok := occur.Next(l, name, from); o != next || ok != (behind < len(of)) {
		t.Fatalf("Next of %v in %v: %v, %t; not %v", from, l, o, ok, next)
	}
}

// Promise 25.2: any rules, among others and wrong ones.
func TestNextAndPrev(t *testing.T) {
	random := rand.New(rand.NewSource(252))
	for range 1500 {
		l := anyRules(random, "EU")
		kept := slices.Clone(l)
		of := all(l, "EU")
		for _, from := range around(of) {
			compare(t, l, "EU", of, from)
		}
		if !slices.Equal(l, kept) {
			t.Fatal("the rules are changed")
		}
	}
}

// Of some places alone it is as if the others' rules were not there; the other rules, and those that may not be, are not asked for.
func TestOfSomePlaces(t *testing.T) {
	random := rand.New(rand.NewSource(256))
	for range 1500 {
		l := anyRules(random, "EU")
		some := map[int]bool{}
		for place := range l {
			some[place] = random.Intn(2) == 0
		}
		asked := func(place int) bool {
			if l[place].Name != "EU" || !rule.Right(l[place]) {
				t.Fatalf("asked for %d in %v", place, l)
			}
			return some[place]
		}
		of := slices.DeleteFunc(all(l, "EU"), func(o api.Occur) bool { return !some[o.Rule] })
		for _, from := range around(of) {
			var prev, next api.Occur
			for _, o := range of {
				if isAhead(o, from) {
					prev = o
				}
			}
			for _, o := range slices.Backward(of) {
				if isAhead(from, o) {
					next = o
				}
			}
			if o, ok := occur.PrevOf(l, "EU", from, asked); o != prev || ok != (prev != api.Occur{}) {
				t.Fatalf("PrevOf of %v in %v: %v, %t; not %v", from, l, o, ok, prev)
			}
			if o, ok := occur.NextOf(l, "EU", from, asked); o != next || ok != (next != api.Occur{}) {
				t.Fatalf("NextOf of %v in %v: %v, %t; not %v", from, l, o, ok, next)
			}
		}
	}
}

// Promise 25.2: rules of all years, of the first and last days of years, of each kind.
func TestAllYears(t *testing.T) {
	full := func(month int, on api.On, sec int64) api.Rule {
		return api.Rule{Name: "A", From: least, To: most, Month: month, On: on, At: api.At{Sec: sec}}
	}
	l := []api.Rule{
		full(12, api.On{Kind: api.OnFrom, Week: 3, Day: 31}, mostAt),
		full(1, api.On{Kind: api.OnUpTo, Week: 3, Day: 1}, 0),
		full(1, api.On{Day: 1}, 0),
		full(12, api.On{Day: 31}, day),
		full(7, api.On{Kind: api.OnLast, Week: 6}, 5),
		{Name: "A", From: -100, To: 100, Month: 1, On: api.On{Kind: api.OnFrom, Day: 2}},
		{Name: "B", From: least, To: most, Month: 5, On: api.On{Day: 9}},
	}
	of := all(l, "A")
	random := rand.New(rand.NewSource(253))
	picks := slices.Concat(of[:12], of[len(of)-12:])
	for range 2000 {
		picks = append(picks, of[random.Intn(len(of))])
	}
	for _, from := range around(picks) {
		compare(t, l, "A", of, from)
	}
}

// Promise 25.2: rules of one year each, in any order, in which those that are found last may be the nearest, or far away.
func TestOneYearEach(t *testing.T) {
	random := rand.New(rand.NewSource(254))
	var l []api.Rule
	for year := range 300 {
		r := anyRule(random, "A", 1800+year, 1)
		r.To = r.From
		l = append(l, r)
	}
	orders := []func(){
		func() {},
		func() { slices.Reverse(l) },
		func() { random.Shuffle(len(l), func(i, k int) { l[i], l[k] = l[k], l[i] }) },
	}
	for _, order := range orders {
		order()
		of := all(l, "A")
		for _, from := range around(of) {
			compare(t, l, "A", of, from)
		}
	}
}

// Promise 25.2: nothing occurs of a name that is not there, of no rules, and of rules that may not be.
func TestNothing(t *testing.T) {
	lists := [][]api.Rule{nil, {}, {eu()}, us(), wrong()}
	for _, l := range lists {
		for _, name := range []string{"", "1", "eu", "EU ", "E", "EU"} {
			if len(l) == 1 && name == "EU" {
				continue
			}
			for _, from := range around(nil) {
				compare(t, l, name, nil, from)
			}
			if of := occur.In(l, name, api.Span{From: math.MinInt64, To: math.MaxInt64}, math.MaxInt); len(of) != 0 {
				t.Errorf("in %v occurs %v of %s", l, of, name)
			}
		}
	}
}

// Promise 25.3: what lies in any spans, whose ends are at, ahead of, and behind occurrences, as many as is asked.
func TestIn(t *testing.T) {
	random := rand.New(rand.NewSource(255))
	for range 1000 {
		l := anyRules(random, "EU")
		of := all(l, "EU")
		ends := []int64{math.MinInt64, api.MinT, 0, api.MaxT, math.MaxInt64}
		for _, o := range of {
			ends = append(ends, o.Nom-1, o.Nom, o.Nom+1)
		}
		for range 40 {
			s := api.Span{From: ends[random.Intn(len(ends))], To: ends[random.Intn(len(ends))]}
			var want []api.Occur
			for _, o := range of {
				if o.Nom >= s.From && o.Nom < s.To {
					want = append(want, o)
				}
			}
			for _, most := range []int{math.MinInt, -1, 0, 1, 2, len(want) - 1, len(want), len(want) + 1, math.MaxInt} {
				first := want[:min(max(most, 0), len(want))]
				if in := occur.In(l, "EU", s, most); !slices.Equal(in, first) {
					t.Fatalf("In of %v, %v, %d: %v; not %v", l, s, most, in, first)
				}
			}
		}
	}
}

// Promise 25.3: a span as long as one may be, and one between two seconds.
func TestInLong(t *testing.T) {
	l := us()
	of := all(l, "US")
	if in := occur.In(l, "US", api.Span{From: math.MinInt64, To: math.MaxInt64}, math.MaxInt); !slices.Equal(in, of) {
		t.Errorf("there are %d; not %d", len(in), len(of))
	}
	for _, o := range of[:20] {
		for from := o.Nom - 2; from <= o.Nom+2; from++ {
			for to := from - 2; to <= from+2; to++ {
				in := occur.In(l, "US", api.Span{From: from, To: to}, 9)
				if has := from <= o.Nom && o.Nom < to; has != (len(in) == 1) || has && in[0] != o {
					t.Errorf("In of %d to %d: %v; %v", from, to, in, o)
				}
			}
		}
	}
}

// Promises 25.4 and 25.5: one by one, there and back, each rule has each of its years, in order.
func TestOneByOne(t *testing.T) {
	random := rand.New(rand.NewSource(256))
	for range 300 {
		l := anyRules(random, "EU")
		years := make([][]int, len(l))
		o, ok := occur.Next(l, "EU", api.Occur{Nom: math.MinInt64, Rule: -1})
		for ok {
			years[o.Rule] = append(years[o.Rule], o.Year)
			if nom, why := occur.Nom(l[o.Rule], o.Year); nom != o.Nom || why != api.OK {
				t.Fatalf("%v in %v: Nom is %d, %d", o, l, nom, why)
			}
			next, more := occur.Next(l, "EU", o)
			if prev, is := occur.Prev(l, "EU", next); more && (prev != o || !is || !occur.Less(o, next)) {
				t.Fatalf("Prev of %v, which is Next of %v, in %v: %v, %t", next, o, l, prev, is)
			}
			o, ok = next, more
		}
		for place, r := range l {
			var want []int
			for year := r.From; r.Name == "EU" && rule.Right(r) && year <= r.To; year++ {
				want = append(want, year)
			}
			if !slices.Equal(years[place], want) {
				t.Fatalf("%v occurs in %v", r, years[place])
			}
		}
	}
}

// Promise 25.2: the example.
func TestExample(t *testing.T) {
	o, ok := occur.Next([]api.Rule{eu()}, "EU", api.Occur{Nom: 1711846800})
	if o != (api.Occur{Year: 2025, Nom: 1743296400}) || !ok {
		t.Error(o, ok)
	}
}
