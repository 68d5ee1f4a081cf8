package patch_test

import (
	"math"
	"math/rand"
	"reflect"
	"slices"
	"testing"
	"time"

	"noontide/api"
	"noontide/delta"
	"noontide/load"
	"noontide/patch"
	"noontide/render"
	"noontide/sample"
)

// zone is one of some eras.
func zone(name string, eras ...api.Era) api.Zone {
	return api.Zone{Name: name, Eras: eras}
}

func one[T any](random *rand.Rand, l ...T) T {
	return l[random.Intn(len(l))]
}

func clone(t api.Table) api.Table {
	c := api.Table{Rules: slices.Clone(t.Rules), Zones: slices.Clone(t.Zones), Links: slices.Clone(t.Links)}
	for i := range c.Zones {
		c.Zones[i].Eras = slices.Clone(c.Zones[i].Eras)
	}
	return c
}

func cloneEdits(l []api.Edit) []api.Edit {
	l = slices.Clone(l)
	for i := range l {
		l[i].Zone.Eras = slices.Clone(l[i].Zone.Eras)
	}
	return l
}

// sameEdits tells whether two lists of edits are, lists of eras that are nil and empty being one.
func sameEdits(a, b []api.Edit) bool {
	return slices.EqualFunc(a, b, func(x, y api.Edit) bool {
		is := slices.Equal(x.Zone.Eras, y.Zone.Eras)
		x.Zone.Eras, y.Zone.Eras = nil, nil
		return is && reflect.DeepEqual(x, y)
	})
}

// list does an edit to one list, by the words; undo is laid into what undoes it.
func list[T any](l []T, e api.Edit, part func(e *api.Edit) *T) (after []T, undo api.Edit, why api.Errno) {
	switch e.Kind {
	case api.EditDrop:
		if e.At < 0 || e.At > len(l)-1 {
			return l, api.Edit{}, api.ErrRange
		}
		undo = api.Edit{Kind: api.EditPut, Part: e.Part, At: e.At}
		*part(&undo) = l[e.At]
		return slices.Concat(l[:e.At], l[e.At+1:]), undo, api.OK
	case api.EditPut:
		if e.At < 0 || e.At > len(l) {
			return l, api.Edit{}, api.ErrRange
		}
		return slices.Concat(l[:e.At], []T{*part(&e)}, l[e.At:]), api.Edit{Kind: api.EditDrop, Part: e.Part, At: e.At}, api.OK
	}
	return l, api.Edit{}, api.ErrForm
}

// apply is Apply, and Back, by the words.
func apply(t api.Table, l []api.Edit) (after api.Table, back []api.Edit, many int, why api.Errno) {
	for place, e := range l {
		var undo api.Edit
		switch e.Part {
		case api.PartRule:
			t.Rules, undo, why = list(t.Rules, e, func(e *api.Edit) *api.Rule { return &e.Rule })
		case api.PartZone:
			t.Zones, undo, why = list(t.Zones, e, func(e *api.Edit) *api.Zone { return &e.Zone })
		case api.PartLink:
			t.Links, undo, why = list(t.Links, e, func(e *api.Edit) *api.Link { return &e.Link })
		default:
			why = api.ErrForm
		}
		if why != api.OK {
			return api.Table{}, nil, place, why
		}
		back = slices.Concat([]api.Edit{undo}, back)
	}
	return t, back, len(l), api.OK
}

// compare holds what is done to a table against the words.
func compare(t *testing.T, table api.Table, l []api.Edit) api.Errno {
	t.Helper()
	want, wantBack, wantMany, whyNot := apply(table, l)
	got, many, why := patch.Apply(table, l)
	if !render.Same(got, want) || many != wantMany || why != whyNot {
		t.Fatalf("%+v, by %+v: %+v, %d, %d; not %+v, %d, %d", table, l, got, many, why, want, wantMany, whyNot)
	}
	back, why := patch.Back(table, l)
	if !sameEdits(back, wantBack) || why != whyNot {
		t.Fatalf("%+v, by %+v, back: %+v, %d; not %+v, %d", table, l, back, why, wantBack, whyNot)
	}
	if why != api.OK {
		return why
	}
	if again, many, why := patch.Apply(got, back); !render.Same(again, table) || many != len(l) || why != api.OK {
		t.Fatalf("%+v, by %+v and back: %+v, %d, %d", table, l, again, many, why)
	}
	return api.OK
}

// Promises 52.1 and 52.2: known ones.
func TestKnown(t *testing.T) {
	r, s := sample.US()[0], sample.US()[1]
	table := api.Table{Rules: []api.Rule{r}, Zones: []api.Zone{zone("A", sample.East())}, Links: []api.Link{{Target: "A", Name: "B"}}}
	l := []api.Edit{
		{Kind: api.EditPut, Part: api.PartRule, At: 0, Rule: s},
		{Kind: api.EditDrop, Part: api.PartZone, At: 0},
		{Kind: api.EditPut, Part: api.PartZone, At: 0, Zone: zone("C")},
		{Kind: api.EditPut, Part: api.PartLink, At: 1, Link: api.Link{Target: "C", Name: "D"}},
		{Kind: api.EditDrop, Part: api.PartLink, At: 0},
		{Kind: api.EditDrop, Part: api.PartRule, At: 1},
	}
	want := api.Table{Rules: []api.Rule{s}, Zones: []api.Zone{zone("C")}, Links: []api.Link{{Target: "C", Name: "D"}}}
	wantBack := []api.Edit{
		{Kind: api.EditPut, Part: api.PartRule, At: 1, Rule: r},
		{Kind: api.EditPut, Part: api.PartLink, At: 0, Link: api.Link{Target: "A", Name: "B"}},
		{Kind: api.EditDrop, Part: api.PartLink, At: 1},
		{Kind: api.EditDrop, Part: api.PartZone, At: 0},
		{Kind: api.EditPut, Part: api.PartZone, At: 0, Zone: zone("A", sample.East())},
		{Kind: api.EditDrop, Part: api.PartRule, At: 0},
	}
	if got, many, why := patch.Apply(table, l); !render.Same(got, want) || many != 6 || why != api.OK {
		t.Errorf("%+v, %d, %d", got, many, why)
	}
	if back, why := patch.Back(table, l); !sameEdits(back, wantBack) || why != api.OK {
		t.Errorf("%+v, %d", back, why)
	}
	compare(t, table, l)
	compare(t, table, nil)
	compare(t, api.Table{}, nil)
	if got, many, why := patch.Apply(table, nil); !render.Same(got, table) || many != 0 || why != api.OK {
		t.Errorf("%+v, %d, %d", got, many, why)
	}
}

// Promises 52.1 and 52.2: what may not be done, first, or behind what may.
func TestWrong(t *testing.T) {
	table := api.Table{
		Rules: sample.US(), Zones: []api.Zone{zone("A"), zone("B", sample.East())},
		Links: []api.Link{{Target: "A", Name: "C"}, {Target: "A", Name: "D"}},
	}
	drop, put := api.EditDrop, api.EditPut
	tests := []struct {
		e    api.Edit
		want api.Errno
	}{
		{api.Edit{}, api.ErrForm},
		{api.Edit{Kind: drop}, api.ErrForm},
		{api.Edit{Kind: put, Part: 4}, api.ErrForm},
		{api.Edit{Kind: drop, Part: -1}, api.ErrForm},
		{api.Edit{Kind: drop, Part: math.MaxInt}, api.ErrForm},
		{api.Edit{Kind: drop, Part: 4, At: 9}, api.ErrForm},
		{api.Edit{Kind: 0, Part: 1}, api.ErrForm},
		{api.Edit{Kind: 3, Part: 1}, api.ErrForm},
		{api.Edit{Kind: -1, Part: 2}, api.ErrForm},
		{api.Edit{Kind: math.MinInt, Part: 3}, api.ErrForm},
		{api.Edit{Kind: 3, Part: 1, At: -1}, api.ErrForm},
		{api.Edit{Kind: 3, Part: 4}, api.ErrForm},
	}
	for part := api.PartRule; part <= api.PartLink; part++ {
		for _, at := range []int{math.MinInt, -1, 0, 1, 2, 3, math.MaxInt} {
			whyDrop, whyPut := api.OK, api.OK
			if at < 0 || at > 1 {
				whyDrop = api.ErrRange
			}
			if at < 0 || at > 2 {
				whyPut = api.ErrRange
			}
			tests = append(tests, struct {
				e    api.Edit
				want api.Errno
			}{api.Edit{Kind: drop, Part: part, At: at}, whyDrop}, struct {
				e    api.Edit
				want api.Errno
			}{api.Edit{Kind: put, Part: part, At: at}, whyPut})
		}
	}
	ahead := []api.Edit{
		{Kind: drop, Part: api.PartRule, At: 1}, {Kind: put, Part: api.PartRule, At: 0},
		{Kind: put, Part: api.PartZone, At: 2, Zone: zone("X")}, {Kind: drop, Part: api.PartZone}, {Kind: drop, Part: api.PartLink, At: 1}, {Kind: put, Part: api.PartLink, At: 1},
	}
	for _, test := range tests {
		for from := 0; from <= len(ahead); from += 2 {
			l := append(slices.Clone(ahead[:from]), test.e, api.Edit{Kind: 9})
			want := test.want
			place := from
			if want == api.OK {
				want, place = api.ErrForm, from+1
			}
			got, many, why := patch.Apply(table, l)
			if len(got.Rules)+len(got.Zones)+len(got.Links) > 0 || many != place || why != want {
				t.Errorf("by %+v: %+v, %d, %d", l, got, many, why)
			}
			if back, why := patch.Back(table, l); len(back) > 0 || why != want {
				t.Errorf("by %+v, back: %+v, %d", l, back, why)
			}
			compare(t, table, l)
			compare(t, table, l[:from+1])
		}
	}
	if got, many, why := patch.Apply(api.Table{}, []api.Edit{{Kind: drop, Part: api.PartRule}}); many != 0 || why != api.ErrRange || got.Rules != nil {
		t.Errorf("%+v, %d, %d", got, many, why)
	}
}

// Promises 52.1 and 52.2: what an edit has in fields that it does not name has no part.
func TestOtherFields(t *testing.T) {
	table := api.Table{Rules: sample.US(), Zones: []api.Zone{zone("A")}, Links: []api.Link{{Target: "A", Name: "C"}}}
	full := api.Edit{Rule: api.Rule{Name: "r"}, Zone: zone("z", sample.East()), Link: api.Link{Target: "x", Name: "y"}}
	for part := api.PartRule; part <= api.PartLink; part++ {
		for _, kind := range []int{api.EditDrop, api.EditPut} {
			e := full
			e.Kind, e.Part = kind, part
			compare(t, table, []api.Edit{e})
			compare(t, table, []api.Edit{e, {Kind: api.EditPut, Part: part, Rule: full.Rule, Zone: full.Zone, Link: full.Link}, e})
		}
	}
}

// anyEdit is often one that may be done.
func anyEdit(random *rand.Rand, many int) api.Edit {
	e := api.Edit{Kind: 1 + random.Intn(2), Part: 1 + random.Intn(3), At: random.Intn(many)}
	if random.Intn(25) == 0 {
		e.Kind, e.Part, e.At = random.Intn(4), random.Intn(5), random.Intn(20)-3
	}
	if e.Kind == api.EditPut || random.Intn(3) == 0 {
		e.Rule = api.Rule{Name: "r", From: random.Intn(100)}
		e.Zone = api.Zone{Name: "z", Eras: make([]api.Era, random.Intn(3))}
		for i := range e.Zone.Eras {
			e.Zone.Eras[i].Off = random.Int63n(100)
		}
		e.Link = api.Link{Target: "t", Name: one(random, "a", "b", "c", "d")}
	}
	return e
}

// Promises 52.1 and 52.2: any edits, of which none hangs on any of the others, done to any table; each list of edits up to each one.
func TestAny(t *testing.T) {
	random := rand.New(rand.NewSource(52))
	many := map[api.Errno]int{}
	for range 20000 {
		var table api.Table
		size := 1 + random.Intn(9)
		for range random.Intn(size) {
			e := anyEdit(random, 1)
			table.Rules, table.Zones, table.Links = append(table.Rules, e.Rule), append(table.Zones, e.Zone), append(table.Links, e.Link)
		}
		var l []api.Edit
		for range random.Intn(20) {
			e := anyEdit(random, size)
			if compare(t, table, append(l, e)) == api.OK || random.Intn(20) == 0 {
				l = append(l, e)
			}
		}
		many[compare(t, table, l)]++
	}
	for _, why := range []api.Errno{api.OK, api.ErrForm, api.ErrRange} {
		if many[why] < 100 {
			t.Errorf("errors: %v", many)
		}
	}
}

// Promise 52.3: there and back, by what one table has beside another one: any that fit, and such as are alike but for some parts.
func TestThereAndBack(t *testing.T) {
	random := rand.New(rand.NewSource(523))
	for range 3000 {
		a, b := sample.Table(random.Intn), sample.Table(random.Intn)
		for range random.Intn(4) {
			a.Links = append(a.Links, api.Link{Target: "Z0", Name: one(random, "a", "b")})
			b.Links = append(b.Links, api.Link{Target: "Z0", Name: one(random, "a", "b")})
		}
		if random.Intn(2) == 0 {
			cut := clone(a)
			from := random.Intn(len(a.Rules) + 1)
			cut.Rules = slices.Concat(a.Rules[:from], b.Rules[:random.Intn(len(b.Rules)+1)], a.Rules[min(len(a.Rules), from+random.Intn(3)):])
			cut.Zones = slices.Concat(a.Zones[random.Intn(2):], b.Zones[:random.Intn(2)])
			b = cut
		}
		l := delta.Of(a, b)
		got, many, why := patch.Apply(a, l)
		if !render.Same(got, b) || many != len(l) || why != api.OK || load.Table(got) != load.Table(b) {
			t.Fatalf("%+v becomes %+v, %d, %d; not %+v", a, got, many, why, b)
		}
		back, why := patch.Back(a, l)
		if again, _, whyAgain := patch.Apply(got, back); !render.Same(again, a) || why != api.OK || whyAgain != api.OK {
			t.Fatalf("%+v comes back as %+v, %d, %d", a, again, why, whyAgain)
		}
	}
}

// Promises 52.1 and 52.2: what is told shares nothing with what is handed in, and that is left as it is.
func TestOwn(t *testing.T) {
	east := sample.East()
	table := api.Table{Rules: sample.US(), Zones: []api.Zone{zone("A", east, east), zone("B", east)}, Links: []api.Link{{Target: "A", Name: "C"}}}
	put := api.Edit{Kind: api.EditPut, Part: api.PartZone, At: 1, Zone: zone("D", east)}
	l := []api.Edit{put, put, {Kind: api.EditDrop, Part: api.PartZone, At: 3}, {Kind: api.EditDrop, Part: api.PartZone, At: 2}, put}
	was, wasEdits := clone(table), cloneEdits(l)
	wantTable, wantBack, _, _ := apply(clone(table), cloneEdits(l))
	wantTable, wantBack = clone(wantTable), cloneEdits(wantBack)
	isLeft := func() {
		t.Helper()
		if !reflect.DeepEqual(table, was) || !sameEdits(l, wasEdits) {
			t.Fatalf("they are %+v and %+v", table, l)
		}
	}
	got, _, _ := patch.Apply(table, l)
	for i := range got.Zones {
		if want := wantTable.Zones[i]; !reflect.DeepEqual(got.Zones[i], want) {
			t.Errorf("zone %d is %+v, not %+v", i, got.Zones[i], want)
		}
		for k := range got.Zones[i].Eras {
			got.Zones[i].Eras[k].Off = int64(i)
		}
		got.Zones[i].Eras = append(got.Zones[i].Eras, api.Era{Off: 7})
	}
	got.Rules[0], got.Links[0], got.Zones[0].Name = api.Rule{}, api.Link{}, "x"
	isLeft()
	back, _ := patch.Back(table, l)
	if !sameEdits(back, wantBack) {
		t.Errorf("%+v, not %+v", back, wantBack)
	}
	for i := range back {
		for k := range back[i].Zone.Eras {
			back[i].Zone.Eras[k].Off = 7
		}
		back[i].Zone.Eras = append(back[i].Zone.Eras, api.Era{Off: 7})
	}
	isLeft()
	got, _, _ = patch.Apply(table, l)
	back, _ = patch.Back(table, l)
	table.Zones[0].Eras[0].Off, table.Rules[0].Name, table.Links[0].Name, l[0].Zone.Eras[0].Off = 9, "", "", 9
	if !render.Same(got, wantTable) || !sameEdits(back, wantBack) {
		t.Errorf("they are %+v and %+v", got, back)
	}
	none, _, _ := patch.Apply(was, nil)
	none.Rules[0], none.Links[0], none.Zones[0].Name, none.Zones[0].Eras[0] = api.Rule{}, api.Link{}, "x", api.Era{}
	if was.Rules[0] != sample.US()[0] || was.Links[0].Name != "C" || was.Zones[0].Name != "A" || was.Zones[0].Eras[0] != east {
		t.Errorf("it is %+v", was)
	}
}

// Promises 52.1 and 52.2: long lists, which are done in time.
func TestLong(t *testing.T) {
	const many = 100000
	var a, b api.Table
	for n := range many {
		a.Rules, b.Rules = append(a.Rules, api.Rule{From: n}), append(b.Rules, api.Rule{To: n})
		a.Links, b.Links = append(a.Links, api.Link{Target: "x"}), append(b.Links, api.Link{Name: "x"})
	}
	start := time.Now()
	l := delta.Of(a, b)
	got, _, _ := patch.Apply(a, l)
	back, _ := patch.Back(a, l)
	again, _, _ := patch.Apply(got, back)
	if !render.Same(got, b) || !render.Same(again, a) {
		t.Error("it is not so")
	}
	if took := time.Since(start); took > time.Minute {
		t.Errorf("it took %v", took)
	}
}
