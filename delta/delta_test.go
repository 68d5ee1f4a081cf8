package delta_test

import (
	"math"
	"math/rand"
	"reflect"
	"slices"
	"strconv"
	"testing"
	"time"

	"noontide/api"
	"noontide/book"
	"noontide/delta"
	"noontide/load"
	"noontide/sample"
)

// zone is one of some eras.
func zone(name string, eras ...api.Era) api.Zone {
	return api.Zone{Name: name, Eras: eras}
}

// link says that name is another name of target.
func link(target, name string) api.Link {
	return api.Link{Target: target, Name: name}
}

func one[T any](random *rand.Rand, l ...T) T {
	return l[random.Intn(len(l))]
}

// made is what makes a list of n parts of one of m, by the words; same tells whether two of both, at these places, are.
func made[T any](part int, a, b []T, same func(x, y T) bool, put func(e api.Edit, x T) api.Edit) []api.Edit {
	front := 0
	for front < len(a) && front < len(b) && same(a[front], b[front]) {
		front++
	}
	end := 0
	for front+end < len(a) && front+end < len(b) && same(a[len(a)-1-end], b[len(b)-1-end]) {
		end++
	}
	var l []api.Edit
	for range len(a) - front - end {
		l = append(l, api.Edit{Kind: 1, Part: part, At: front})
	}
	for at := front; at < len(b)-end; at++ {
		l = append(l, put(api.Edit{Kind: 2, Part: part, At: at}, b[at]))
	}
	return l
}

func sameEras(x, y []api.Era) bool {
	return len(x) == len(y) && (len(x) == 0 || reflect.DeepEqual(x, y))
}

// of is Of by the words.
func of(a, b api.Table) []api.Edit {
	return slices.Concat(
		made(1, a.Rules, b.Rules, func(x, y api.Rule) bool { return reflect.DeepEqual(x, y) }, func(e api.Edit, x api.Rule) api.Edit { e.Rule = x; return e }),
		made(2, a.Zones, b.Zones, func(x, y api.Zone) bool { return x.Name == y.Name && sameEras(x.Eras, y.Eras) }, func(e api.Edit, x api.Zone) api.Edit { e.Zone = x; return e }),
		made(3, a.Links, b.Links, func(x, y api.Link) bool { return reflect.DeepEqual(x, y) }, func(e api.Edit, x api.Link) api.Edit { e.Link = x; return e }),
	)
}

// sameEdits tells whether two lists of edits are, lists of eras that are nil and empty being one.
func sameEdits(a, b []api.Edit) bool {
	return slices.EqualFunc(a, b, func(x, y api.Edit) bool {
		is := sameEras(x.Zone.Eras, y.Zone.Eras)
		x.Zone.Eras, y.Zone.Eras = nil, nil
		return is && reflect.DeepEqual(x, y)
	})
}

// meaning is what a name means in a table, by the words: is: anything at all.
func meaning(t api.Table, name string) (eras []api.Era, rules [][]api.Rule, is bool) {
	at, why := book.New(t).Find(name)
	if why != api.OK {
		return nil, nil, false
	}
	for _, e := range t.Zones[at].Eras {
		eras = append(eras, e)
		var l []api.Rule
		for _, r := range t.Rules {
			if e.Kind == api.RulesNamed && r.Name == e.Rules {
				l = append(l, r)
			}
		}
		rules = append(rules, l)
	}
	return eras, rules, true
}

// changed is Changed by the words.
func changed(a, b api.Table) []string {
	var l []string
	for _, name := range append(book.New(a).Names(), book.New(b).Names()...) {
		erasA, rulesA, isA := meaning(a, name)
		erasB, rulesB, isB := meaning(b, name)
		if isA != isB || !reflect.DeepEqual(erasA, erasB) || !reflect.DeepEqual(rulesA, rulesB) {
			l = append(l, name)
		}
	}
	slices.Sort(l)
	return slices.Compact(l)
}

// compare holds what is told of two tables against the words.
func compare(t *testing.T, a, b api.Table) {
	t.Helper()
	l, want := delta.Of(a, b), of(a, b)
	if !sameEdits(l, want) {
		t.Fatalf("of %+v and %+v: %+v, not %+v", a, b, l, want)
	}
	names, wantNames := delta.Changed(a, b), changed(a, b)
	if !slices.Equal(names, wantNames) {
		t.Fatalf("of %+v and %+v changed are %q, not %q", a, b, names, wantNames)
	}
	drops, puts := 0, 0
	for _, e := range want {
		if e.Kind == api.EditDrop {
			drops++
		} else {
			puts++
		}
	}
	if d, p := delta.Count(l); d != drops || p != puts {
		t.Fatalf("of %+v: %d drops, %d puts", l, d, p)
	}
}

// Promise 51.1: known lists.
func TestKnown(t *testing.T) {
	r, s, u := api.Rule{Name: "r"}, api.Rule{Name: "s"}, api.Rule{Name: "u"}
	drop := func(at int) api.Edit { return api.Edit{Kind: api.EditDrop, Part: api.PartRule, At: at} }
	put := func(at int, r api.Rule) api.Edit {
		return api.Edit{Kind: api.EditPut, Part: api.PartRule, At: at, Rule: r}
	}
	tests := []struct {
		a, b []api.Rule
		want []api.Edit
	}{
		{nil, nil, nil},
		{nil, []api.Rule{}, nil},
		{[]api.Rule{r, s}, []api.Rule{r, u, s}, []api.Edit{put(1, u)}},
		{[]api.Rule{r, u, s}, []api.Rule{r, s}, []api.Edit{drop(1)}},
		{[]api.Rule{r, u}, []api.Rule{r, s}, []api.Edit{drop(1), put(1, s)}},
		{nil, []api.Rule{r, s}, []api.Edit{put(0, r), put(1, s)}},
		{[]api.Rule{r, s}, nil, []api.Edit{drop(0), drop(0)}},
		{[]api.Rule{r, s}, []api.Rule{s, r}, []api.Edit{drop(0), drop(0), put(0, s), put(1, r)}},
		{[]api.Rule{r, r}, []api.Rule{r}, []api.Edit{drop(1)}},
		{[]api.Rule{r}, []api.Rule{r, r, r}, []api.Edit{put(1, r), put(2, r)}},
		{[]api.Rule{r, s, r}, []api.Rule{r}, []api.Edit{drop(1), drop(1)}},
		{[]api.Rule{r}, []api.Rule{r, s, r}, []api.Edit{put(1, s), put(2, r)}},
		{[]api.Rule{s, r}, []api.Rule{r}, []api.Edit{drop(0)}},
		{[]api.Rule{r, s, u}, []api.Rule{r, u, u}, []api.Edit{drop(1), put(1, u)}},
		{[]api.Rule{r, s, s, u}, []api.Rule{r, s, u}, []api.Edit{drop(2)}},
	}
	for _, test := range tests {
		a, b := api.Table{Rules: test.a}, api.Table{Rules: test.b}
		if l := delta.Of(a, b); !reflect.DeepEqual(l, test.want) && len(l)+len(test.want) > 0 {
			t.Errorf("of %+v and %+v: %+v", test.a, test.b, l)
		}
		compare(t, a, b)
	}
}

// Promise 51.1: rules come first, then zones, then links.
func TestOrder(t *testing.T) {
	a := api.Table{Rules: []api.Rule{{Name: "r"}}, Zones: []api.Zone{zone("A"), zone("B")}, Links: []api.Link{link("A", "C")}}
	b := api.Table{Rules: []api.Rule{{Name: "s"}}, Zones: []api.Zone{zone("A"), zone("D", sample.East())}, Links: []api.Link{link("B", "C")}}
	want := []api.Edit{
		{Kind: 1, Part: 1}, {Kind: 2, Part: 1, Rule: api.Rule{Name: "s"}},
		{Kind: 1, Part: 2, At: 1}, {Kind: 2, Part: 2, At: 1, Zone: zone("D", sample.East())},
		{Kind: 1, Part: 3}, {Kind: 2, Part: 3, Link: link("B", "C")},
	}
	if l := delta.Of(a, b); !reflect.DeepEqual(l, want) {
		t.Errorf("%+v", l)
	}
	compare(t, a, b)
}

// Promise 51.1: of parts that differ in one field alone each one is another one; lists of eras that are nil and empty are one.
func TestFields(t *testing.T) {
	r := sample.US()[0]
	e := sample.East()
	e.Until = sample.Beginning(2030)
	a := api.Table{Rules: []api.Rule{r}, Zones: []api.Zone{zone("A", e, sample.East())}, Links: []api.Link{link("A", "B")}}
	for n, change := range []func(t *api.Table){
		func(t *api.Table) { t.Rules[0].Name += "x" },
		func(t *api.Table) { t.Rules[0].From++ },
		func(t *api.Table) { t.Rules[0].To-- },
		func(t *api.Table) { t.Rules[0].Month++ },
		func(t *api.Table) { t.Rules[0].On.Kind++ },
		func(t *api.Table) { t.Rules[0].On.Week++ },
		func(t *api.Table) { t.Rules[0].On.Day++ },
		func(t *api.Table) { t.Rules[0].At.Sec++ },
		func(t *api.Table) { t.Rules[0].At.Base++ },
		func(t *api.Table) { t.Rules[0].Save++ },
		func(t *api.Table) { t.Rules[0].Letter = "" },
		func(t *api.Table) { t.Zones[0].Name = "a" },
		func(t *api.Table) { t.Zones[0].Eras[0].Off++ },
		func(t *api.Table) { t.Zones[0].Eras[0].Kind = api.RulesNone },
		func(t *api.Table) { t.Zones[0].Eras[0].Save++ },
		func(t *api.Table) { t.Zones[0].Eras[0].Rules = "EU" },
		func(t *api.Table) { t.Zones[0].Eras[0].Format += "x" },
		func(t *api.Table) { t.Zones[0].Eras[0].Until.Has = false },
		func(t *api.Table) { t.Zones[0].Eras[0].Until.Year++ },
		func(t *api.Table) { t.Zones[0].Eras[0].Until.Month++ },
		func(t *api.Table) { t.Zones[0].Eras[0].Until.On.Day++ },
		func(t *api.Table) { t.Zones[0].Eras[0].Until.At.Sec++ },
		func(t *api.Table) { t.Zones[0].Eras[0].Until.At.Base++ },
		func(t *api.Table) { t.Zones[0].Eras[1].Off++ },
		func(t *api.Table) { t.Zones[0].Eras = t.Zones[0].Eras[:1] },
		func(t *api.Table) { t.Zones[0].Eras = nil },
		func(t *api.Table) { t.Links[0].Target = "b" },
		func(t *api.Table) { t.Links[0].Name = "a" },
	} {
		b := clone(a)
		change(&b)
		if drops, puts := delta.Count(delta.Of(a, b)); drops != 1 || puts != 1 {
			t.Errorf("change %d: %d drops, %d puts", n, drops, puts)
		}
		compare(t, a, b)
		compare(t, b, a)
	}
	empty, none := api.Table{Zones: []api.Zone{{Name: "A", Eras: []api.Era{}}}}, api.Table{Zones: []api.Zone{{Name: "A"}}, Links: []api.Link{}}
	if l, names := delta.Of(empty, none), delta.Changed(empty, none); len(l) > 0 || len(names) > 0 {
		t.Errorf("an empty list beside a nil one: %+v, %q", l, names)
	}
}

func clone(t api.Table) api.Table {
	c := api.Table{Rules: slices.Clone(t.Rules), Zones: slices.Clone(t.Zones), Links: slices.Clone(t.Links)}
	for i := range c.Zones {
		c.Zones[i].Eras = slices.Clone(c.Zones[i].Eras)
	}
	return c
}

// anyEra is often one of the others.
func anyEra(random *rand.Rand) api.Era {
	e := api.Era{Off: one[int64](random, 0, 0, 1), Format: "X"}
	e.Kind = one(random, api.RulesNone, api.RulesFixed, api.RulesNamed, api.RulesNamed, 7)
	e.Rules = one(random, "", "r", "s", "t")
	return e
}

// anyTable has few parts, of few kinds, which need not fit.
func anyTable(random *rand.Rand) api.Table {
	names := []string{"A", "B", "C", "D", ""}
	var t api.Table
	for range random.Intn(6) {
		t.Rules = append(t.Rules, api.Rule{Name: one(random, "r", "r", "s", ""), From: random.Intn(2)})
	}
	for range random.Intn(4) {
		z := api.Zone{Name: one(random, names...)}
		for range random.Intn(3) {
			z.Eras = append(z.Eras, anyEra(random))
		}
		t.Zones = append(t.Zones, z)
	}
	for range random.Intn(4) {
		t.Links = append(t.Links, link(one(random, names...), one(random, names...)))
	}
	return t
}

// edited is a table that is another one, but for some few parts.
func edited(random *rand.Rand, t api.Table) api.Table {
	t = clone(t)
	other := anyTable(random)
	for range 1 + random.Intn(3) {
		switch random.Intn(3) {
		case 0:
			t.Rules = spliced(random, t.Rules, other.Rules)
		case 1:
			t.Zones = spliced(random, t.Zones, other.Zones)
		case 2:
			t.Links = spliced(random, t.Links, other.Links)
		}
	}
	return t
}

// spliced is a list with some part of it in place of which stands a part of another one.
func spliced[T any](random *rand.Rand, l, other []T) []T {
	from := random.Intn(len(l) + 1)
	to := min(len(l), from+random.Intn(2))
	return slices.Concat(l[:from], other[:random.Intn(len(other)+1)], l[to:])
}

// Promises 51.1 and 51.2: any tables.
func TestAny(t *testing.T) {
	random := rand.New(rand.NewSource(51))
	for range 60000 {
		a := anyTable(random)
		compare(t, a, anyTable(random))
		compare(t, a, edited(random, a))
	}
}

// Promise 51.1: of any edits drops are counted, and puts.
func TestCount(t *testing.T) {
	var l []api.Edit
	for _, kind := range []int{0, 1, 2, 1, 3, -1, math.MinInt, math.MaxInt, 2, 1, 4} {
		l = append(l, api.Edit{Kind: kind, Part: kind, At: -kind})
	}
	for most, want := range [][2]int{{0, 0}, {0, 0}, {1, 0}, {1, 1}, {2, 1}, {2, 1}, {2, 1}, {2, 1}, {2, 1}, {2, 2}, {3, 2}, {3, 2}} {
		if drops, puts := delta.Count(l[:most]); drops != want[0] || puts != want[1] {
			t.Errorf("of the first %d: %d, %d", most, drops, puts)
		}
	}
}

// Promise 51.2: known tables.
func TestChanged(t *testing.T) {
	us, east := sample.US(), sample.East()
	utc := api.Era{Format: "UTC"}
	few := []api.Rule{us[0]}
	turned := []api.Rule{us[1], us[0]}
	more := append(slices.Clone(us), api.Rule{Name: "EU"})
	fixed := api.Era{Kind: api.RulesFixed, Rules: "US", Format: "X"}
	tests := []struct {
		a, b api.Table
		want []string
	}{
		{api.Table{}, api.Table{}, nil},
		{api.Table{Zones: []api.Zone{zone("A", utc)}}, api.Table{Zones: []api.Zone{zone("B", utc)}}, []string{"A", "B"}},
		{api.Table{Zones: []api.Zone{zone("A")}}, api.Table{}, []string{"A"}},
		{api.Table{}, api.Table{Zones: []api.Zone{zone("b"), zone("A"), zone("B")}}, []string{"A", "B", "b"}},
		{api.Table{Zones: []api.Zone{zone("A", utc)}}, api.Table{Zones: []api.Zone{zone("A")}}, []string{"A"}},
		{api.Table{Zones: []api.Zone{zone("A", utc)}}, api.Table{Zones: []api.Zone{zone("A", utc, utc)}}, []string{"A"}},
		{api.Table{Zones: []api.Zone{zone("A", utc), zone("B", utc)}}, api.Table{Zones: []api.Zone{zone("B", utc), zone("A", utc)}}, nil},
		{api.Table{Zones: []api.Zone{zone("A", utc), zone("B", utc)}}, api.Table{Zones: []api.Zone{zone("A", utc)}, Links: []api.Link{link("A", "B")}}, nil},
		{api.Table{Zones: []api.Zone{zone("A", utc)}, Links: []api.Link{link("A", "B")}}, api.Table{Zones: []api.Zone{zone("C", utc)}, Links: []api.Link{link("C", "B")}}, []string{"A", "C"}},
		{api.Table{Zones: []api.Zone{zone("A", utc)}, Links: []api.Link{link("A", "B"), link("B", "C")}}, api.Table{Zones: []api.Zone{zone("A", east)}, Links: []api.Link{link("B", "C"), link("A", "B")}}, []string{"A", "B", "C"}},
		{api.Table{Rules: us, Zones: []api.Zone{zone("A", east), zone("B", utc)}}, api.Table{Rules: few, Zones: []api.Zone{zone("A", east), zone("B", utc)}}, []string{"A"}},
		{api.Table{Rules: us, Zones: []api.Zone{zone("A", east)}}, api.Table{Rules: turned, Zones: []api.Zone{zone("A", east)}}, []string{"A"}},
		{api.Table{Rules: us, Zones: []api.Zone{zone("A", utc, east)}}, api.Table{Zones: []api.Zone{zone("A", utc, east)}}, []string{"A"}},
		{api.Table{Rules: us, Zones: []api.Zone{zone("A", east)}}, api.Table{Rules: more, Zones: []api.Zone{zone("A", east)}}, nil},
		{api.Table{Rules: us, Zones: []api.Zone{zone("A", fixed)}}, api.Table{Rules: few, Zones: []api.Zone{zone("A", fixed)}}, nil},
		{api.Table{Zones: []api.Zone{zone("A", utc)}, Links: []api.Link{link("A", "B")}}, api.Table{Zones: []api.Zone{zone("A", utc)}, Links: []api.Link{link("C", "B")}}, []string{"B"}},
		{api.Table{Zones: []api.Zone{zone("A", utc)}}, api.Table{Zones: []api.Zone{zone("A", utc)}, Links: []api.Link{link("B", "A"), link("A", "B")}}, []string{"A"}},
		{api.Table{Links: []api.Link{link("A", "B")}}, api.Table{Links: []api.Link{link("C", "D")}}, nil},
	}
	for _, test := range tests {
		for range 2 {
			if names := delta.Changed(test.a, test.b); !slices.Equal(names, test.want) {
				t.Errorf("of %+v and %+v: %q, not %q", test.a, test.b, names, test.want)
			}
			compare(t, test.a, test.b)
			test.a, test.b = test.b, test.a
		}
	}
}

// Promise 51.3: of one table beside itself, and beside one that is the same, there is nothing.
func TestNothing(t *testing.T) {
	random := rand.New(rand.NewSource(513))
	for range 5000 {
		a := anyTable(random)
		for _, b := range []api.Table{a, clone(a)} {
			if l, names := delta.Of(a, b), delta.Changed(a, b); len(l) > 0 || len(names) > 0 {
				t.Fatalf("of %+v: %+v, %q", a, l, names)
			}
		}
	}
}

// Promise 51.4: what is not named has the same infos in both.
func TestNotNamed(t *testing.T) {
	random := rand.New(rand.NewSource(514))
	named := map[bool]int{}
	for range 3000 {
		a := sample.Table(random.Intn)
		b := clone(a)
		other := sample.Table(random.Intn)
		b.Rules = spliced(random, b.Rules, other.Rules)
		if random.Intn(2) == 0 {
			b.Zones = slices.Concat(b.Zones[:random.Intn(len(b.Zones)+1)], other.Zones)
		}
		slices.Reverse(b.Zones)
		a.Links, b.Links = []api.Link{link("Z0", "L"), link("Z1", "M")}[:min(2, len(a.Zones))], []api.Link{link("Z0", "M")}
		if load.Table(a) != api.OK || load.Table(b) != api.OK {
			continue
		}
		names := delta.Changed(a, b)
		x, y := book.New(a), book.New(b)
		for _, name := range append(x.Names(), y.Names()...) {
			inA, whyA := x.Find(name)
			inB, whyB := y.Find(name)
			if whyA != api.OK || whyB != api.OK {
				continue
			}
			_, is := slices.BinarySearch(names, name)
			named[is]++
			if !is && !slices.Equal(sample.Infos(a, inA), sample.Infos(b, inB)) {
				t.Fatalf("of %+v and %+v: %q is not told", a, b, name)
			}
		}
	}
	if named[true] < 100 || named[false] < 100 {
		t.Errorf("told and not: %v", named)
	}
}

// Promise 51.1: what is told shares nothing with the tables, and these are left as they are.
func TestOwn(t *testing.T) {
	a := api.Table{Rules: sample.US()[:1], Zones: []api.Zone{zone("A", sample.East()), zone("C")}, Links: []api.Link{link("A", "B")}}
	b := api.Table{Rules: sample.US(), Zones: []api.Zone{zone("A", sample.East()), zone("B", sample.East(), sample.East()), zone("D", sample.East())}, Links: []api.Link{link("A", "B")}}
	wasA, wasB := clone(a), clone(b)
	l := delta.Of(a, b)
	delta.Changed(a, b)
	for i := range l {
		for k := range l[i].Zone.Eras {
			l[i].Zone.Eras[k].Off = 7
		}
		l[i].Zone.Eras = append(l[i].Zone.Eras, api.Era{Off: 7})
	}
	if !reflect.DeepEqual(a, wasA) || !reflect.DeepEqual(b, wasB) {
		t.Errorf("they are %+v and %+v", a, b)
	}
	l = delta.Of(a, b)
	for i := range b.Zones {
		b.Zones[i].Eras[0].Off = 8
	}
	if want := delta.Of(wasA, wasB); !reflect.DeepEqual(l, want) {
		t.Errorf("it is %+v", l)
	}
}

// Promises 51.1 and 51.2: long lists, which are told in time.
func TestLong(t *testing.T) {
	const many = 100000
	var a, b api.Table
	for n := range many {
		name := strconv.Itoa(n)
		a.Rules = append(a.Rules, api.Rule{Name: name})
		b.Rules = append(b.Rules, api.Rule{Name: name, From: n})
		a.Links, b.Links = append(a.Links, link("A", name)), append(b.Links, link("A", name))
	}
	eras := []api.Era{{Kind: api.RulesNamed, Rules: "0"}, {Kind: api.RulesNamed, Rules: "7"}}
	a.Zones, b.Zones = []api.Zone{zone("A", eras[0])}, []api.Zone{zone("A", eras[0])}
	start := time.Now()
	if drops, puts := delta.Count(delta.Of(a, b)); drops != many-1 || puts != many-1 {
		t.Errorf("%d drops, %d puts", drops, puts)
	}
	if names := delta.Changed(a, b); len(names) > 0 {
		t.Errorf("%d names", len(names))
	}
	a.Zones[0].Eras, b.Zones[0].Eras = eras, eras
	if names := delta.Changed(a, b); len(names) != many+1 {
		t.Errorf("%d names", len(names))
	}
	if took := time.Since(start); took > time.Minute {
		t.Errorf("it took %v", took)
	}
}
