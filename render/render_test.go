package render_test

import (
	"math"
	"math/rand"
	"reflect"
	"slices"
	"strings"
	"testing"

	"noontide/api"
	"noontide/era"
	"noontide/link"
	"noontide/read"
	"noontide/render"
	"noontide/rule"
)

func eu() api.Rule {
	return api.Rule{Name: "EU", From: 1981, To: api.MaxYear, Month: 3, On: api.On{Kind: api.OnLast}, At: api.At{Sec: 3600, Base: api.AtUtc}, Save: 3600, Letter: "S"}
}

// beginning is the end of an era with a year.
func beginning(year int) api.Until {
	return api.Until{Has: true, Year: year, Month: 1, On: api.On{Day: 1}}
}

// some is a table of all kinds of parts.
func some() api.Table {
	return api.Table{
		Rules: []api.Rule{eu(), {Name: "_", From: -5, To: -5, Month: 12, On: api.On{Kind: api.OnFrom, Week: 1, Day: 8}, At: api.At{Sec: 5, Base: api.AtStd}, Save: -1800}},
		Zones: []api.Zone{
			{Name: "A", Eras: []api.Era{{Off: 3600, Format: "X", Until: beginning(1950)}, {Off: 7200, Kind: api.RulesNamed, Rules: "EU", Format: "E%sT", Until: beginning(1951)}, {Off: 7200, Format: "Y"}}},
			{Name: "Etc/GMT+1", Eras: []api.Era{{Off: -3600, Kind: api.RulesFixed, Save: 3600, Format: "%z"}}},
		},
		Links: []api.Link{{Target: "A", Name: "B"}, {Target: "none", Name: "B"}},
	}
}

const someText = `Rule EU 1981 max - Mar lastSun 1:00u 1:00 S
Rule _ -5 only - Dec Mon>=8 0:00:05s -0:30 -
Zone A 1:00 - X 1950
 2:00 EU E%sT 1951
 2:00 - Y
Zone Etc/GMT+1 -1:00 1:00 %z
Link A B
Link none B
`

// Promise 31.1: texts that are known.
func TestKnown(t *testing.T) {
	all := some()
	tests := []struct {
		table api.Table
		text  string
	}{
		{api.Table{}, ""},
		{api.Table{Rules: []api.Rule{}, Zones: []api.Zone{}, Links: []api.Link{}}, ""},
		{all, someText},
		{api.Table{Rules: all.Rules[:1]}, "Rule EU 1981 max - Mar lastSun 1:00u 1:00 S\n"},
		{api.Table{Links: all.Links[:1]}, "Link A B\n"},
		{api.Table{Zones: []api.Zone{{Name: "A", Eras: []api.Era{all.Zones[0].Eras[0], all.Zones[0].Eras[2]}}}}, "Zone A 1:00 - X 1950\n 2:00 - Y\n"},
		{api.Table{Zones: []api.Zone{{Name: "A", Eras: []api.Era{{Format: "UTC"}}}}}, "Zone A 0 - UTC\n"},
		{api.Table{Zones: []api.Zone{{Name: "A", Eras: []api.Era{{Off: 3600, Format: "X", Until: api.Until{Has: true, Year: 1950, Month: 2, On: api.On{Kind: api.OnUpTo, Week: 6, Day: 9}, At: api.At{Sec: 60}}}, {Format: "X"}}}}}, "Zone A 1:00 - X 1950 Feb Sat<=9 0:01\n 0 - X\n"},
		{api.Table{Links: []api.Link{all.Links[1], all.Links[1]}, Rules: []api.Rule{eu(), eu()}}, strings.Repeat("Rule EU 1981 max - Mar lastSun 1:00u 1:00 S\n", 2) + strings.Repeat("Link none B\n", 2)},
	}
	for _, x := range tests {
		if text, why := render.Text(x.table); text != x.text || why != api.OK || !render.Right(x.table) {
			t.Errorf("Text of %v: %q, %d, %t; not %q", x.table, text, why, render.Right(x.table), x.text)
		}
	}
}

// wrongRules are rules that may not be.
func wrongRules() []api.Rule {
	sets := []func(r *api.Rule){
		func(r *api.Rule) { r.Name = "" },
		func(r *api.Rule) { r.Name = "a b" },
		func(r *api.Rule) { r.Name = strings.Repeat("a", 65) },
		func(r *api.Rule) { r.From = -32768 },
		func(r *api.Rule) { r.To = math.MaxInt },
		func(r *api.Rule) { r.To = r.From - 1 },
		func(r *api.Rule) { r.Month = 0 },
		func(r *api.Rule) { r.On.Kind = 4 },
		func(r *api.Rule) { r.At.Sec = 172801 },
		func(r *api.Rule) { r.At.Base = -1 },
		func(r *api.Rule) { r.Save = math.MinInt64 },
		func(r *api.Rule) { r.Letter = "\"" },
		func(r *api.Rule) { r.Letter = "#" },
		func(r *api.Rule) { r.Letter = "abcdefg" },
	}
	l := []api.Rule{{}}
	for _, set := range sets {
		r := eu()
		set(&r)
		l = append(l, r)
	}
	return l
}

// wrongZones are zones that may not be.
func wrongZones() []api.Zone {
	last := api.Era{Format: "X"}
	first := api.Era{Format: "X", Until: beginning(1950)}
	l := []api.Zone{{}, {Name: "A"}, {Name: "A", Eras: []api.Era{}}}
	for _, name := range []string{"", "1", "a b", "\"", "#", "a\nb", "-", "é", strings.Repeat("a", 65)} {
		l = append(l, api.Zone{Name: name, Eras: []api.Era{last}})
	}
	for _, eras := range [][]api.Era{{first}, {first, first}, {last, last}, {last, first}, {first, last, last}, {first, last, first}} {
		l = append(l, api.Zone{Name: "A", Eras: eras})
	}
	sets := []func(e *api.Era){
		func(e *api.Era) { e.Off = 54001 },
		func(e *api.Era) { e.Off = math.MinInt64 },
		func(e *api.Era) { e.Kind = 3 },
		func(e *api.Era) { e.Save = 1 },
		func(e *api.Era) { e.Rules = "A" },
		func(e *api.Era) { e.Kind = api.RulesNamed },
		func(e *api.Era) { e.Kind, e.Rules = api.RulesNamed, "1:00" },
		func(e *api.Era) { e.Kind, e.Save = api.RulesFixed, 10801 },
		func(e *api.Era) { e.Format = "" },
		func(e *api.Era) { e.Format = "\"X\"" },
		func(e *api.Era) { e.Format = "#" },
		func(e *api.Era) { e.Format = strings.Repeat("a", 17) },
		func(e *api.Era) { e.Until.Month = 13 },
		func(e *api.Era) { e.Until.Year = api.MaxYear },
	}
	for _, set := range sets {
		wrong, wrongLast := first, last
		set(&wrong)
		set(&wrongLast)
		l = append(l, api.Zone{Name: "A", Eras: []api.Era{wrong, last}}, api.Zone{Name: "A", Eras: []api.Era{wrongLast}}, api.Zone{Name: "A", Eras: []api.Era{first, wrong, last}}, api.Zone{Name: "A", Eras: []api.Era{first, wrongLast}})
	}
	return l
}

// wrongLinks are links that may not be.
func wrongLinks() []api.Link {
	long := strings.Repeat("a", 65)
	return []api.Link{{}, {Target: "A"}, {Name: "A"}, {Target: "A", Name: "A"}, {Target: "A b", Name: "A"}, {Target: "A", Name: "1"}, {Target: long, Name: "A"}, {Target: "A", Name: long}, {Target: "\n", Name: "A"}}
}

// tablesWith are tables into whose list a part was put: at its beginning, in its midst, and at its end.
func tablesWith[T any](list func(t *api.Table) *[]T, part T) []api.Table {
	var l []api.Table
	for place := range 3 {
		t := some()
		parts := list(&t)
		*parts = slices.Insert(slices.Clone(*parts), place, part)
		l = append(l, t)
	}
	return l
}

// Promise 31.1: parts that may not be, wherever they stand.
func TestWrong(t *testing.T) {
	var tables []api.Table
	for _, r := range wrongRules() {
		tables = append(tables, tablesWith(func(t *api.Table) *[]api.Rule { return &t.Rules }, r)...)
		tables = append(tables, api.Table{Rules: []api.Rule{r}})
	}
	for _, z := range wrongZones() {
		tables = append(tables, tablesWith(func(t *api.Table) *[]api.Zone { return &t.Zones }, z)...)
		tables = append(tables, api.Table{Zones: []api.Zone{z}})
	}
	for _, l := range wrongLinks() {
		tables = append(tables, tablesWith(func(t *api.Table) *[]api.Link { return &t.Links }, l)...)
		tables = append(tables, api.Table{Links: []api.Link{l}})
	}
	for _, table := range tables {
		if text, why := render.Text(table); text != "" || why != api.ErrForm || render.Right(table) {
			t.Errorf("Text of %v: %q, %d, %t", table, text, why, render.Right(table))
		}
	}
}

// anyOf are some of a list's.
func anyOf[T any](r *rand.Rand, l []T) []T {
	var some []T
	for range r.Intn(4) {
		some = append(some, l[r.Intn(len(l))])
	}
	return some
}

// names are such as may be.
func names() []string {
	return []string{"A", "a", "B", "Rule", "Zone", "Link", "_", "max", "Etc/GMT-14", strings.Repeat("z", 64)}
}

// anyRule may be.
func anyRule(r *rand.Rand) api.Rule {
	from := r.Intn(65535) - 32767
	return api.Rule{
		Name: names()[r.Intn(10)], From: from, To: []int{from, api.MaxYear, from + r.Intn(32768-from)}[r.Intn(3)], Month: 1 + r.Intn(12), On: anyOn(r),
		At: anyAt(r), Save: r.Int63n(2*api.MaxSave+1) - api.MaxSave, Letter: []string{"", "S", "+1-2ab", "0"}[r.Intn(4)],
	}
}

// anyOn names a day that each month has.
func anyOn(r *rand.Rand) api.On {
	day, week := 1+r.Intn(28), r.Intn(7)
	return []api.On{{Day: 1}, {Day: day}, {Kind: api.OnLast, Week: week}, {Kind: api.OnFrom, Week: week, Day: day}, {Kind: api.OnUpTo, Week: week, Day: day}}[r.Intn(5)]
}

func anyAt(r *rand.Rand) api.At {
	return api.At{Sec: []int64{0, 7200, 172800, r.Int63n(172801)}[r.Intn(4)], Base: r.Intn(3)}
}

func anyUntil(r *rand.Rand) api.Until {
	u := beginning(r.Intn(65533) - 32766)
	if r.Intn(2) == 0 {
		u.Month = 1 + r.Intn(12)
	}
	if r.Intn(2) == 0 {
		u.On = anyOn(r)
	}
	if r.Intn(2) == 0 {
		u.At = anyAt(r)
	}
	return u
}

// anyZone may be.
func anyZone(r *rand.Rand) api.Zone {
	z := api.Zone{Name: names()[r.Intn(10)]}
	for more := 1 + r.Intn(4); more > 0; more-- {
		e := api.Era{Off: r.Int63n(2*api.MaxOff+1) - api.MaxOff, Kind: r.Intn(3), Format: []string{"X", "E%sT", "%z", "-/+", "aaaaaaaaaaaaaa%s", "-", "%s"}[r.Intn(7)]}
		switch e.Kind {
		case api.RulesFixed:
			e.Save = r.Int63n(2*api.MaxSave+1) - api.MaxSave
		case api.RulesNamed:
			e.Rules = names()[r.Intn(10)]
		}
		if more > 1 {
			e.Until = anyUntil(r)
		}
		z.Eras = append(z.Eras, e)
	}
	return z
}

// anyTable may be written.
func anyTable(r *rand.Rand) api.Table {
	var t api.Table
	for range r.Intn(4) {
		t.Rules = append(t.Rules, anyRule(r))
	}
	for range r.Intn(4) {
		t.Zones = append(t.Zones, anyZone(r))
	}
	for range r.Intn(4) {
		from := r.Intn(10)
		t.Links = append(t.Links, api.Link{Target: names()[from], Name: names()[(from+1+r.Intn(9))%10]})
	}
	return t
}

// source goes by the words: no field of what may be has to be quoted.
func source(t api.Table) string {
	var text string
	for _, r := range t.Rules {
		f, _ := rule.Fields(r)
		text += "Rule " + strings.Join(f, " ") + "\n"
	}
	for _, z := range t.Zones {
		for i, e := range z.Eras {
			f, _ := era.Fields(e)
			if i == 0 {
				text += "Zone " + z.Name
			}
			text += " " + strings.Join(f, " ") + "\n"
		}
	}
	for _, l := range t.Links {
		f, _ := link.Fields(l)
		text += "Link " + strings.Join(f, " ") + "\n"
	}
	return text
}

// same holds lists that are nil, and such without elements, for one.
func same(a, b api.Table) bool {
	are := func(a, b any) bool {
		return reflect.ValueOf(a).Len() == 0 && reflect.ValueOf(b).Len() == 0 || reflect.DeepEqual(a, b)
	}
	is := len(a.Zones) == len(b.Zones)
	for i := range min(len(a.Zones), len(b.Zones)) {
		is = is && a.Zones[i].Name == b.Zones[i].Name && are(a.Zones[i].Eras, b.Zones[i].Eras)
	}
	return is && are(a.Rules, b.Rules) && are(a.Links, b.Links)
}

// Promises 31.1 and 31.3: any tables that may be written, which are read as they were, and are left as they are.
func TestAny(t *testing.T) {
	r := rand.New(rand.NewSource(31))
	for range 10000 {
		table := anyTable(r)
		kept := clone(table)
		text, why := render.Text(table)
		if want := source(table); text != want || why != api.OK || !render.Right(table) {
			t.Fatalf("Text of %v: %q, %d, %t; not %q", table, text, why, render.Right(table), want)
		}
		if got, _, fault := read.Table(text); fault != (api.Fault{}) || !same(got, table) {
			t.Fatalf("%q tells %v, %v; not %v", text, got, fault, table)
		}
		if !reflect.DeepEqual(table, kept) {
			t.Fatal("what was handed in is changed")
		}
	}
}

// clone is a table that shares nothing with t.
func clone(t api.Table) api.Table {
	t.Rules, t.Zones, t.Links = slices.Clone(t.Rules), slices.Clone(t.Zones), slices.Clone(t.Links)
	for i := range t.Zones {
		t.Zones[i].Eras = slices.Clone(t.Zones[i].Eras)
	}
	return t
}

// Promises 31.1 and 31.3: a table may be written, though it has more than one that is read, and though its source is too long.
func TestMore(t *testing.T) {
	last := api.Era{Off: -54000 + 1, Kind: api.RulesFixed, Save: -10799, Format: strings.Repeat("X", 16)}
	first := last
	first.Until = api.Until{Has: true, Year: -32766, Month: 12, On: api.On{Kind: api.OnUpTo, Day: 31}, At: api.At{Sec: 172799, Base: api.AtStd}}
	eras := append(slices.Repeat([]api.Era{first}, api.MaxEras-1), last)
	zone := api.Zone{Name: strings.Repeat("z", 64), Eras: eras}
	one := api.Link{Target: "A", Name: "B"}
	small := api.Zone{Name: "A", Eras: []api.Era{{Format: "X"}}}
	tests := []struct {
		table api.Table
		why   api.Errno
	}{
		{api.Table{Rules: slices.Repeat([]api.Rule{eu()}, api.MaxRules)}, api.OK},
		{api.Table{Rules: slices.Repeat([]api.Rule{eu()}, api.MaxRules+1)}, api.ErrFull},
		{api.Table{Links: slices.Repeat([]api.Link{one}, api.MaxLinks)}, api.OK},
		{api.Table{Links: slices.Repeat([]api.Link{one}, api.MaxLinks+1)}, api.ErrFull},
		{api.Table{Zones: slices.Repeat([]api.Zone{small}, api.MaxZones)}, api.OK},
		{api.Table{Zones: slices.Repeat([]api.Zone{small}, api.MaxZones+1)}, api.ErrFull},
		{api.Table{Zones: []api.Zone{zone}}, api.OK},
		{api.Table{Zones: []api.Zone{{Name: "A", Eras: slices.Insert(slices.Clone(eras), 0, first)}}}, api.ErrFull},
		{api.Table{Zones: slices.Repeat([]api.Zone{zone}, 60)}, api.OK},
		{api.Table{Zones: slices.Repeat([]api.Zone{zone}, 80)}, api.ErrLong},
	}
	for i, x := range tests {
		text, why := render.Text(x.table)
		if why != api.OK || !render.Right(x.table) {
			t.Errorf("test %d: %d, %t", i, why, render.Right(x.table))
		}
		got, _, fault := read.Table(text)
		if fault.Err != x.why || x.why == api.OK && !same(got, x.table) {
			t.Errorf("test %d tells %v", i, fault)
		}
	}
}

// Promise 31.4: sources that say the same, with other words, blanks, marks and remarks, and with parts of other kinds between, have one text.
func TestOneWay(t *testing.T) {
	for _, src := range []string{
		someText,
		"Link A B\nLink none B\n" + strings.TrimSuffix(someText, "Link A B\nLink none B\n"),
		strings.ReplaceAll(someText, " ", "\t \t"),
		strings.ReplaceAll(someText, "\n", " # x\n\n# y\n"),
		`r "EU" 1981 ma - marc last"Sun" 1u 1 S
			LINK A "B"
			z A 1:00:00 - X 1950 Jan 1 0:00
				2 EU "E%sT" 1951 January
				2 - Y
			ru _ -5 -5 - D mon>=8 0:00:05s -0:30:00 - # -
			li none B
			zon Etc/GMT+1 -1 1 %z`,
	} {
		table, _, fault := read.Table(src)
		if fault != (api.Fault{}) {
			t.Fatalf("%q: %v", src, fault)
		}
		if text, why := render.Text(table); text != someText || why != api.OK {
			t.Errorf("%q has the text %q, %d", src, text, why)
		}
	}
}

// others are tables in each of which one thing is other than in t.
func others(t api.Table) []api.Table {
	var l []api.Table
	other := func(change func(t *api.Table)) {
		one := clone(t)
		change(&one)
		l = append(l, one)
	}
	other(func(t *api.Table) { t.Rules = t.Rules[1:] })
	other(func(t *api.Table) { t.Rules = nil })
	other(func(t *api.Table) { t.Rules = append(t.Rules, t.Rules[0]) })
	other(func(t *api.Table) { slices.Reverse(t.Rules) })
	other(func(t *api.Table) { t.Zones = t.Zones[:1] })
	other(func(t *api.Table) { t.Zones = append(t.Zones, t.Zones[1]) })
	other(func(t *api.Table) { t.Zones = append(t.Zones, api.Zone{}) })
	other(func(t *api.Table) { slices.Reverse(t.Zones) })
	other(func(t *api.Table) { t.Zones[1].Name = "etc/GMT+1" })
	other(func(t *api.Table) { t.Zones[0].Eras = t.Zones[0].Eras[:2] })
	other(func(t *api.Table) { t.Zones[0].Eras = append(t.Zones[0].Eras, api.Era{}) })
	other(func(t *api.Table) { slices.Reverse(t.Zones[0].Eras) })
	other(func(t *api.Table) { t.Zones[0].Eras, t.Zones[1].Eras = t.Zones[1].Eras, t.Zones[0].Eras })
	other(func(t *api.Table) { t.Links = t.Links[:1] })
	other(func(t *api.Table) { t.Links = append(t.Links, t.Links[0]) })
	other(func(t *api.Table) { slices.Reverse(t.Links) })
	other(func(t *api.Table) { t.Links[0].Target = "b" })
	other(func(t *api.Table) { t.Links[1].Name = "b" })
	changesOf(reflect.TypeFor[api.Rule](), func(change func(v reflect.Value)) {
		other(func(t *api.Table) { change(reflect.ValueOf(&t.Rules[1]).Elem()) })
	})
	changesOf(reflect.TypeFor[api.Era](), func(change func(v reflect.Value)) {
		other(func(t *api.Table) { change(reflect.ValueOf(&t.Zones[0].Eras[1]).Elem()) })
		other(func(t *api.Table) { change(reflect.ValueOf(&t.Zones[1].Eras[0]).Elem()) })
	})
	return l
}

// changesOf tells of ways to change each field of a struct, and of those in it.
func changesOf(kind reflect.Type, tell func(change func(v reflect.Value))) {
	for i := range kind.NumField() {
		if field := kind.Field(i).Type; field.Kind() == reflect.Struct {
			changesOf(field, func(change func(v reflect.Value)) {
				tell(func(v reflect.Value) { change(v.Field(i)) })
			})
			continue
		}
		tell(func(v reflect.Value) {
			switch f := v.Field(i); f.Kind() {
			case reflect.String:
				f.SetString(f.String() + "x")
			case reflect.Bool:
				f.SetBool(!f.Bool())
			default:
				f.SetInt(f.Int() + 1)
			}
		})
	}
}

// Promise 31.2: a table is the same as one that has all that it has, and as no other one.
func TestSame(t *testing.T) {
	table := some()
	all := append(others(table), table, api.Table{})
	if len(all) < 50 {
		t.Errorf("there are but %d others", len(all))
	}
	for i, a := range all {
		for k, b := range all {
			if got := render.Same(a, clone(b)); got != (i == k) {
				t.Errorf("%v and %v are the same: %t", a, b, got)
			}
		}
	}
	empty := api.Table{Rules: []api.Rule{}, Zones: []api.Zone{}, Links: []api.Link{}}
	if !render.Same(empty, api.Table{}) || !render.Same(api.Table{}, empty) {
		t.Error("lists without elements are not the same as nil ones")
	}
	none, without := api.Table{Zones: []api.Zone{{Name: "A"}}}, api.Table{Zones: []api.Zone{{Name: "A", Eras: []api.Era{}}}}
	if !render.Same(none, without) || render.Same(none, table) {
		t.Error("zones without eras")
	}
}

// Promise 31.2: any tables, wrong ones among them.
func TestSameAny(t *testing.T) {
	r := rand.New(rand.NewSource(312))
	rules, zones, links := append(wrongRules(), eu()), append(wrongZones(), some().Zones...), append(wrongLinks(), some().Links...)
	for range 20000 {
		a := api.Table{Rules: anyOf(r, rules), Zones: anyOf(r, zones), Links: anyOf(r, links)}
		b := clone(a)
		switch r.Intn(4) {
		case 0:
			b.Rules = anyOf(r, rules[:3])
		case 1:
			b.Zones = anyOf(r, zones[:3])
		case 2:
			b.Links = anyOf(r, links[:3])
		}
		if got, want := render.Same(a, b), same(a, b); got != want {
			t.Fatalf("%v and %v are the same: %t", a, b, got)
		}
	}
}
