package check_test

import (
	"math"
	"math/rand"
	"reflect"
	"slices"
	"testing"

	"noontide/apart"
	"noontide/api"
	"noontide/book"
	"noontide/check"
	"noontide/until"
)

// rule changes something on a day of June, in one year.
func rule(name string, year, day int) api.Rule {
	return api.Rule{Name: name, From: year, To: year, Month: 6, On: api.On{Day: day}, At: api.At{Base: api.AtUtc}, Save: 3600}
}

// end is on a day of June.
func end(year, day int) api.Until {
	return api.Until{Has: true, Year: year, Month: 6, On: api.On{Day: day}, At: api.At{Base: api.AtUtc}}
}

func plain(u api.Until) api.Era {
	return api.Era{Format: "X", Until: u}
}

func named(name string, u api.Until) api.Era {
	return api.Era{Kind: api.RulesNamed, Rules: name, Format: "X", Until: u}
}

func zone(name string, eras ...api.Era) api.Zone {
	return api.Zone{Name: name, Eras: eras}
}

// wrongZones are some whose eras may not be so.
func wrongZones() []api.Zone {
	last := plain(api.Until{})
	return []api.Zone{
		{},
		zone("A"),
		zone("A", plain(end(1950, 1))),
		zone("A", last, last),
		zone("A", last, plain(end(1950, 1))),
		zone("A", plain(end(1950, 1)), last, last),
		zone("A", api.Era{}),
		zone("A", named("", api.Until{})),
		zone("A", api.Era{Off: 54001, Format: "X"}),
		zone("A", api.Era{Kind: 3, Format: "X"}),
		zone("A", plain(end(api.MaxYear, 1)), last),
		zone("A", plain(end(1950, 31)), last),
		zone("A", plain(end(1950, 1)), api.Era{Format: "/"}),
	}
}

// inOrder is a line of each part, one behind the other: rules, eras, links.
func inOrder(t api.Table) api.Where {
	var w api.Where
	line := 0
	next := func() int {
		line++
		return line
	}
	for range t.Rules {
		w.Rules = append(w.Rules, next())
	}
	for _, z := range t.Zones {
		var l []int
		for range z.Eras {
			l = append(l, next())
		}
		w.Eras = append(w.Eras, l)
	}
	for range t.Links {
		w.Links = append(w.Links, next())
	}
	return w
}

// some is a table of all kinds of parts, with which nothing is wrong.
func some() api.Table {
	return api.Table{
		Rules: []api.Rule{rule("R", 1950, 1), rule("S", 1950, 1), rule("R", 1950, 8)},
		Zones: []api.Zone{
			zone("A", named("R", end(1955, 1)), plain(api.Until{})),
			zone("B", named("S", api.Until{})),
		},
		Links: []api.Link{{Target: "A", Name: "C"}, {Target: "C", Name: "D"}},
	}
}

// Promise 30.1: lines of all parts, one too few, one too many, and such as are no lines.
func TestWhere(t *testing.T) {
	table := some()
	ask := func(change func(w *api.Where), want bool) {
		t.Helper()
		w := inOrder(table)
		change(&w)
		if got := check.Where(table, w); got != want {
			t.Errorf("Where of %v: %t", w, got)
		}
		if got := check.Check(table, w); want && got != (api.Fault{}) || !want && got != (api.Fault{Err: api.ErrForm}) {
			t.Errorf("Check with %v: %v", w, got)
		}
	}
	ask(func(w *api.Where) {}, true)
	for _, list := range []func(w *api.Where) *[]int{
		func(w *api.Where) *[]int { return &w.Rules },
		func(w *api.Where) *[]int { return &w.Eras[0] },
		func(w *api.Where) *[]int { return &w.Eras[1] },
		func(w *api.Where) *[]int { return &w.Links },
	} {
		ask(func(w *api.Where) { *list(w) = nil }, false)
		ask(func(w *api.Where) { l := list(w); *l = (*l)[1:] }, false)
		ask(func(w *api.Where) { l := list(w); *l = append(*l, 20) }, false)
		for _, line := range []int{1, 2, 9, math.MaxInt} {
			ask(func(w *api.Where) { (*list(w))[0] = line }, true)
		}
		for _, line := range []int{0, -1, math.MinInt} {
			ask(func(w *api.Where) { (*list(w))[0] = line }, false)
			ask(func(w *api.Where) { l := list(w); (*l)[len(*l)-1] = line }, false)
		}
	}
	ask(func(w *api.Where) { w.Eras = nil }, false)
	ask(func(w *api.Where) { w.Eras = w.Eras[:1] }, false)
	ask(func(w *api.Where) { w.Eras = append(w.Eras, nil) }, false)
	ask(func(w *api.Where) { w.Eras = append(w.Eras, []int{20}) }, false)
	ask(func(w *api.Where) { slices.Reverse(w.Eras) }, false)
	ask(func(w *api.Where) { *w = api.Where{} }, false)
}

// Promise 30.1: a table without parts.
func TestWhereOfNothing(t *testing.T) {
	for _, table := range []api.Table{{}, {Rules: []api.Rule{}, Zones: []api.Zone{}, Links: []api.Link{}}} {
		for _, w := range []api.Where{{}, {Rules: []int{}, Eras: [][]int{}, Links: []int{}}} {
			if !check.Where(table, w) || check.Check(table, w) != (api.Fault{}) {
				t.Errorf("%v, %v: %t, %v", table, w, check.Where(table, w), check.Check(table, w))
			}
		}
		for _, w := range []api.Where{{Rules: []int{1}}, {Eras: [][]int{{1}}}, {Eras: [][]int{{}}}, {Links: []int{1}}} {
			if check.Where(table, w) {
				t.Errorf("Where of nothing, and %v", w)
			}
		}
	}
}

// Promises 30.1 and 30.2: zones whose eras may not be so, though each has its line; of rules and links it is not asked.
func TestWrongZones(t *testing.T) {
	for _, z := range wrongZones() {
		for place := range 3 {
			table := some()
			table.Zones = slices.Insert(table.Zones, place, z)
			w := inOrder(table)
			if check.Where(table, w) {
				t.Errorf("Where of %v", z)
			}
			if got := check.Check(table, w); got != (api.Fault{Err: api.ErrForm}) {
				t.Errorf("Check of %v: %v", z, got)
			}
		}
	}
	table := api.Table{Rules: []api.Rule{{}}, Links: []api.Link{{}}, Zones: []api.Zone{zone("", plain(api.Until{}))}}
	if !check.Where(table, inOrder(table)) {
		t.Error("Where asks for more than for eras")
	}
}

// Promise 30.2: what is wrong with each part, and which is told.
func TestFaults(t *testing.T) {
	last := plain(api.Until{})
	just, near := named("R", end(1950, 1)), named("R", end(1950, 2))
	tests := []struct {
		change func(t *api.Table)
		line   int
		why    api.Errno
	}{
		{func(t *api.Table) {}, 0, api.OK},
		{func(t *api.Table) { t.Rules[2].On.Day = 2 }, 3, api.ErrClose},
		{func(t *api.Table) { t.Rules[2].On.Day = 2; t.Rules[1].Name = "R" }, 2, api.ErrClose},
		{func(t *api.Table) { t.Rules[2].Month = 0 }, 3, api.ErrForm},
		{func(t *api.Table) { t.Rules[0].Month = 0 }, 3, api.ErrForm},
		{func(t *api.Table) { t.Rules[1].Month = 0 }, 0, api.OK},
		{func(t *api.Table) { t.Zones[1].Name = "A" }, 6, api.ErrTwice},
		{func(t *api.Table) { t.Zones[1] = zone("A", named("T", api.Until{})) }, 6, api.ErrTwice},
		{func(t *api.Table) { t.Zones[1] = zone("A", near, last) }, 6, api.ErrTwice},
		{func(t *api.Table) { t.Zones[1] = zone("A", just, named("T", api.Until{})) }, 6, api.ErrTwice},
		{func(t *api.Table) { t.Zones[1] = zone("B", just, named("T", api.Until{})) }, 7, api.ErrNone},
		{func(t *api.Table) { t.Zones[0].Eras[0].Rules = "T" }, 4, api.ErrNone},
		{func(t *api.Table) { t.Zones[0].Eras[0].Rules = "r" }, 4, api.ErrNone},
		{func(t *api.Table) { t.Zones[0].Eras[1] = named("T", api.Until{}) }, 5, api.ErrNone},
		{func(t *api.Table) { t.Zones[0].Eras[0] = near }, 4, api.ErrClose},
		{func(t *api.Table) { t.Zones[0].Eras[0] = just }, 0, api.OK},
		{func(t *api.Table) { t.Zones[1] = zone("B", plain(end(1950, 7)), named("R", api.Until{})) }, 6, api.ErrClose},
		{func(t *api.Table) {
			t.Zones[1] = zone("B", plain(end(1960, 1)), plain(end(1960, 5)), plain(end(1960, 5)), last)
		}, 8, api.ErrOrder},
		{func(t *api.Table) {
			t.Zones[1] = zone("B", plain(end(1960, 1)), plain(end(1960, 4)), named("T", end(1960, 5)), last)
		}, 7, api.ErrClose},
		{func(t *api.Table) { t.Zones[1] = zone("B", plain(end(1960, 5)), named("T", end(1960, 5)), last) }, 7, api.ErrNone},
		{func(t *api.Table) { t.Links[0].Name = "B" }, 7, api.ErrTwice},
		{func(t *api.Table) { t.Links[1].Name = "C" }, 8, api.ErrTwice},
		{func(t *api.Table) { t.Links[1] = api.Link{Target: "C", Name: "C"} }, 8, api.ErrTwice},
		{func(t *api.Table) { t.Links[0].Target = "D" }, 7, api.ErrLoop},
		{func(t *api.Table) { t.Links[0].Target = "x" }, 7, api.ErrNone},
		{func(t *api.Table) { t.Links[1].Target = "x" }, 8, api.ErrNone},
		{func(t *api.Table) { t.Links[0].Target, t.Links[0].Name = "D", "B" }, 7, api.ErrTwice},
		{func(t *api.Table) { t.Links[0].Target, t.Links[0].Name = "x", "A" }, 7, api.ErrTwice},
		{func(t *api.Table) { slices.Reverse(t.Links) }, 0, api.OK},
		{func(t *api.Table) { t.Rules = nil }, 1, api.ErrNone},
		{func(t *api.Table) { t.Zones = nil }, 4, api.ErrNone},
	}
	for i, x := range tests {
		table := some()
		x.change(&table)
		if got, want := check.Check(table, inOrder(table)), (api.Fault{Line: x.line, Err: x.why}); got != want {
			t.Errorf("test %d, %v: %v; not %v", i, table, got, want)
		}
	}
}

// Promise 30.2: the least line counts, wherever it stands; of parts that stand in one line zones come ahead of rules, and these of links.
func TestLeastLine(t *testing.T) {
	table := some()
	table.Rules[2].On.Day = 2
	table.Zones[0].Eras[0].Rules, table.Zones[0].Eras[1] = "T", named("T", api.Until{})
	table.Zones[1].Name = "A"
	table.Links[0].Target, table.Links[1].Name = "x", "A"
	// Of the parts that are wrong, in order, that of a rule, and of links, behind all eras.
	whys := []api.Errno{api.ErrNone, api.ErrNone, api.ErrTwice, api.ErrClose, api.ErrNone, api.ErrTwice}
	r := rand.New(rand.NewSource(30))
	for range 3000 {
		lines := make([]int, len(whys))
		for i := range lines {
			lines[i] = 2 + r.Intn(8)
		}
		w := api.Where{Rules: []int{1, 1, lines[3]}, Eras: [][]int{lines[:2], lines[2:3]}, Links: lines[4:]}
		least := slices.Min(lines)
		want := api.Fault{Line: least, Err: whys[slices.Index(lines, least)]}
		if got := check.Check(table, w); got != want {
			t.Fatalf("Check with %v: %v; not %v", w, got, want)
		}
	}
}

// where goes by the words.
func where(t api.Table, w api.Where) bool {
	lines := slices.Concat(slices.Concat(w.Eras...), w.Rules, w.Links)
	if len(w.Rules) != len(t.Rules) || len(w.Links) != len(t.Links) || len(w.Eras) != len(t.Zones) || len(lines) > 0 && slices.Min(lines) < 1 {
		return false
	}
	for i, z := range t.Zones {
		if _, why := until.Ends(t.Rules, z); why != api.OK || len(z.Eras) != len(w.Eras[i]) {
			return false
		}
	}
	return true
}

// faults are those of all parts, in order, as the words tell them, right ones among them.
func faults(t api.Table, w api.Where) []api.Fault {
	var l []api.Fault
	for i, z := range t.Zones {
		place, whyUntil := until.Check(t.Rules, z)
		for k, e := range z.Eras {
			has := slices.ContainsFunc(t.Rules, func(r api.Rule) bool { return r.Name == e.Rules })
			why := api.OK
			switch {
			case k == 0 && slices.ContainsFunc(t.Zones[:i], func(other api.Zone) bool { return other.Name == z.Name }):
				why = api.ErrTwice
			case e.Kind == api.RulesNamed && !has:
				why = api.ErrNone
			case place == k:
				why = whyUntil
			}
			l = append(l, api.Fault{Line: w.Eras[i][k], Err: why})
		}
	}
	for i := range t.Rules {
		place, why := apart.Check(t.Rules[:i+1])
		if place != i {
			why = api.OK
		}
		l = append(l, api.Fault{Line: w.Rules[i], Err: why})
	}
	b := book.New(t)
	for i, one := range t.Links {
		_, why := b.Find(one.Name)
		if slices.ContainsFunc(t.Zones, func(z api.Zone) bool { return z.Name == one.Name }) ||
			slices.ContainsFunc(t.Links[:i], func(other api.Link) bool { return other.Name == one.Name }) {
			why = api.ErrTwice
		}
		l = append(l, api.Fault{Line: w.Links[i], Err: why})
	}
	return l
}

func model(t api.Table, w api.Where) api.Fault {
	if !where(t, w) {
		return api.Fault{Err: api.ErrForm}
	}
	var least api.Fault
	for _, f := range faults(t, w) {
		if f.Err != api.OK && (least.Err == api.OK || f.Line < least.Line) {
			least = f
		}
	}
	return least
}

// anyTable has rules that are often too close to each other, eras that often end too close to what they do, and names that are there twice, or lead nowhere.
func anyTable(r *rand.Rand, many int) api.Table {
	var t api.Table
	for range r.Intn(many) {
		one := rule([]string{"R", "R", "R", "S", "S", "T", ""}[r.Intn(7)], 1950+r.Intn(6), 1+r.Intn(3)*6)
		if r.Intn(20) == 0 {
			one.Month = 0
		}
		t.Rules = append(t.Rules, one)
	}
	name := func() string { return string(rune('A' + r.Intn(12))) }
	for range r.Intn(many) {
		t.Zones = append(t.Zones, zone(name(), anyEras(r)...))
	}
	for range r.Intn(many) {
		t.Links = append(t.Links, api.Link{Target: name(), Name: name()})
	}
	return t
}

func anyEras(r *rand.Rand) []api.Era {
	var l []api.Era
	year := 1949
	for range r.Intn(3) {
		year += r.Intn(4)
		l = append(l, anyEra(r, end(year, 1+r.Intn(4)*3)))
	}
	last := anyEra(r, api.Until{})
	if r.Intn(200) == 0 {
		last.Until = end(1980, 1)
	}
	return append(l, last)
}

func anyEra(r *rand.Rand, u api.Until) api.Era {
	switch r.Intn(12) {
	case 0:
		return named("T", u)
	case 1, 2:
		return named("S", u)
	case 3, 4, 5:
		return named("R", u)
	case 6:
		return api.Era{Kind: api.RulesFixed, Save: 3600, Format: "X", Until: u}
	}
	return plain(u)
}

// anyWhere puts parts into lines, several into one at times, and wrongly at times.
func anyWhere(r *rand.Rand, t api.Table) api.Where {
	w := inOrder(t)
	most := 1 + r.Intn(60)
	for _, l := range append(slices.Clone(w.Eras), w.Rules, w.Links) {
		for i := range l {
			l[i] = 1 + r.Intn(most)
			if r.Intn(400) == 0 {
				l[i] = -r.Intn(2)
			}
		}
	}
	return w
}

// Promises 30.1 and 30.2: any tables; what is handed in is left as it is.
func TestAny(t *testing.T) {
	r := rand.New(rand.NewSource(302))
	told := map[api.Errno]int{}
	for range 30000 {
		table := anyTable(r, 1+r.Intn(7))
		w := anyWhere(r, table)
		kept, keptWhere := clone(table), allLines(w)
		if got, want := check.Where(table, w), where(table, w); got != want {
			t.Fatalf("Where of %v, %v: %t", table, w, got)
		}
		got, want := check.Check(table, w), model(table, w)
		if got != want {
			t.Fatalf("Check of %v, %v: %v; not %v", table, w, got, want)
		}
		told[got.Err]++
		if !reflect.DeepEqual(table, kept) || !reflect.DeepEqual(allLines(w), keptWhere) {
			t.Fatal("what was handed in is changed")
		}
	}
	for _, why := range []api.Errno{api.OK, api.ErrForm, api.ErrTwice, api.ErrNone, api.ErrOrder, api.ErrClose, api.ErrLoop} {
		if told[why] < 100 {
			t.Errorf("%d was told but %d times", why, told[why])
		}
	}
}

// clone is a table that shares nothing with t.
func clone(t api.Table) api.Table {
	t.Rules, t.Zones, t.Links = slices.Clone(t.Rules), slices.Clone(t.Zones), slices.Clone(t.Links)
	for i := range t.Zones {
		t.Zones[i].Eras = slices.Clone(t.Zones[i].Eras)
	}
	return t
}

// allLines are those of w.
func allLines(w api.Where) []int {
	return slices.Concat(slices.Concat(w.Eras...), w.Rules, w.Links)
}

// Promise 30.3: if nothing is wrong, all fits.
func TestFits(t *testing.T) {
	r := rand.New(rand.NewSource(303))
	taken := 0
	for taken < 1000 {
		table := anyTable(r, 5)
		if check.Check(table, inOrder(table)) != (api.Fault{}) {
			continue
		}
		taken++
		if zone, link := book.Twice(table); zone != -1 || link != -1 {
			t.Fatalf("%v has names twice: %d, %d", table, zone, link)
		}
		b := book.New(table)
		for _, one := range table.Links {
			if _, why := b.Find(one.Name); why != api.OK {
				t.Fatalf("%v: %v leads to no zone: %d", table, one, why)
			}
		}
		if at, why := apart.Check(table.Rules); at != -1 || why != api.OK {
			t.Fatalf("%v: rule %d tells %d", table, at, why)
		}
		for _, z := range table.Zones {
			if at, why := until.Check(table.Rules, z); at != -1 || why != api.OK {
				t.Fatalf("%v: era %d tells %d", z, at, why)
			}
			for _, e := range z.Eras {
				if e.Kind == api.RulesNamed && !slices.ContainsFunc(table.Rules, func(r api.Rule) bool { return r.Name == e.Rules }) {
					t.Fatalf("%v: there are no rules of %v", table, e)
				}
			}
		}
	}
}

// Promise 30.4: lines ahead of the one that is named are not wrong: once what stands in that one stands far behind, a line behind it is named.
func TestFirst(t *testing.T) {
	const farBehind = 1000
	r := rand.New(rand.NewSource(304))
	for range 5000 {
		table := anyTable(r, 6)
		w := anyWhere(r, table)
		for f := check.Check(table, w); f.Line > 0; {
			for _, l := range append(slices.Clone(w.Eras), w.Rules, w.Links) {
				for i := range l {
					if l[i] == f.Line {
						l[i] = farBehind
					}
				}
			}
			next := check.Check(table, w)
			if next.Line <= f.Line {
				t.Fatalf("%v, behind %v comes %v", table, f, next)
			}
			if next.Line == farBehind {
				break
			}
			f = next
		}
	}
}

// Promise 30.2: as many parts as a source may tell.
func TestMany(t *testing.T) {
	var table api.Table
	for i := range api.MaxRules {
		table.Rules = append(table.Rules, rule(numbered("R", i/4), 1950+i%4, 1))
	}
	for i := range api.MaxZones {
		eras := []api.Era{}
		for year := range 60 {
			eras = append(eras, named(numbered("R", i), end(1960+year, 1)))
		}
		table.Zones = append(table.Zones, zone(numbered("Z", i), append(eras, plain(api.Until{}))...))
	}
	for i := range api.MaxLinks {
		table.Links = append(table.Links, api.Link{Target: numbered("L", i+1), Name: numbered("L", i)})
	}
	table.Links[api.MaxLinks-1].Target = numbered("Z", 7)
	w := inOrder(table)
	if got := check.Check(table, w); got != (api.Fault{}) {
		t.Error(got)
	}
	table.Links[api.MaxLinks-1].Target = table.Links[0].Name
	if got, want := check.Check(table, w), (api.Fault{Line: w.Links[0], Err: api.ErrLoop}); got != want {
		t.Error(got)
	}
	last := &table.Zones[api.MaxZones-1].Eras[59].Rules
	*last = "x"
	if got, want := check.Check(table, w), (api.Fault{Line: w.Links[0] - 2, Err: api.ErrNone}); got != want {
		t.Error(got)
	}
	table.Rules[api.MaxRules-1].From = 1952
	table.Rules[api.MaxRules-1].To = 1952
	if got, want := check.Check(table, w), (api.Fault{Line: api.MaxRules, Err: api.ErrClose}); got != want {
		t.Error(got)
	}
}

func numbered(s string, n int) string {
	for range 3 {
		s += string(rune('a' + n%26))
		n /= 26
	}
	return s
}

// The examples.
func TestExamples(t *testing.T) {
	has := api.Table{Zones: []api.Zone{zone("A", api.Era{Off: 3600, Kind: api.RulesNamed, Rules: "EU", Format: "X"})}}
	if got := check.Check(has, api.Where{Eras: [][]int{{1}}}); got != (api.Fault{Line: 1, Err: api.ErrNone}) {
		t.Error(got)
	}
	links := api.Table{Links: []api.Link{{Target: "B", Name: "A"}}}
	if got := check.Check(links, api.Where{Links: []int{1}}); got != (api.Fault{Line: 1, Err: api.ErrNone}) {
		t.Error(got)
	}
	links.Links = append(links.Links, api.Link{Target: "A", Name: "B"})
	if got := check.Check(links, api.Where{Links: []int{1, 2}}); got != (api.Fault{Line: 1, Err: api.ErrLoop}) {
		t.Error(got)
	}
}
