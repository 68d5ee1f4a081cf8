package book_test

import (
	"math"
	"math/rand"
	"slices"
	"strconv"
	"testing"

	"noontide/api"
	"noontide/book"
	"noontide/link"
)

// zones are some without eras, of these names.
func zones(names ...string) []api.Zone {
	var l []api.Zone
	for _, name := range names {
		l = append(l, api.Zone{Name: name})
	}
	return l
}

// links are some, each of a target and a name.
func links(pairs ...[2]string) []api.Link {
	var l []api.Link
	for _, p := range pairs {
		l = append(l, api.Link{Target: p[0], Name: p[1]})
	}
	return l
}

// find is Find by the words.
func find(t api.Table, name string) (int, api.Errno) {
	end, why := link.Follow(t.Links, name)
	if why != api.OK {
		return 0, why
	}
	for i, z := range t.Zones {
		if z.Name == end {
			return i, api.OK
		}
	}
	return 0, api.ErrNone
}

// names are those that a table has and that lead to a zone that is fit, in order.
func names(t api.Table, fit func(zone int) bool) []string {
	var all []string
	for _, z := range t.Zones {
		all = append(all, z.Name)
	}
	for _, l := range t.Links {
		all = append(all, l.Name)
	}
	slices.Sort(all)
	var l []string
	for _, name := range slices.Compact(all) {
		if zone, why := find(t, name); why == api.OK && fit(zone) {
			l = append(l, name)
		}
	}
	return l
}

// twice is Twice by the words.
func twice(t api.Table) (zone, link int) {
	zone, link = -1, -1
	for i := range t.Zones {
		for k := range i {
			if zone < 0 && t.Zones[i].Name == t.Zones[k].Name {
				zone = i
			}
		}
	}
	for i, l := range t.Links {
		is := slices.ContainsFunc(t.Zones, func(z api.Zone) bool { return z.Name == l.Name }) ||
			slices.ContainsFunc(t.Links[:i], func(other api.Link) bool { return other.Name == l.Name })
		if is && link < 0 {
			link = i
		}
	}
	return zone, link
}

// holds holds a book of a table, and Twice, against the words.
func holds(t *testing.T, table api.Table, asked []string) {
	t.Helper()
	b := book.New(table)
	for _, name := range asked {
		zone, why := b.Find(name)
		if wantZone, want := find(table, name); zone != wantZone || why != want {
			t.Fatalf("%v: %q leads to %d, %d, not %d, %d", table, name, zone, why, wantZone, want)
		}
	}
	if got, want := b.Names(), names(table, func(int) bool { return true }); !slices.Equal(got, want) {
		t.Fatalf("%v: names %q, not %q", table, got, want)
	}
	for zone := -1; zone <= len(table.Zones); zone++ {
		if got, want := b.Alias(zone), names(table, func(at int) bool { return at == zone }); !slices.Equal(got, want) {
			t.Fatalf("%v: names of %d are %q, not %q", table, zone, got, want)
		}
	}
	zone, link := book.Twice(table)
	if wantZone, wantLink := twice(table); zone != wantZone || link != wantLink {
		t.Fatalf("%v: twice are %d and %d, not %d and %d", table, zone, link, wantZone, wantLink)
	}
}

// tableOf is a table of some zones and links, whose names come seldom alone.
func tableOf(r *rand.Rand, all []string) api.Table {
	var t api.Table
	for range r.Intn(5) {
		t.Zones = append(t.Zones, api.Zone{Name: all[r.Intn(len(all))]})
	}
	for range r.Intn(8) {
		t.Links = append(t.Links, api.Link{Target: all[r.Intn(len(all))], Name: all[r.Intn(len(all))]})
	}
	return t
}

// Promise 29.1: the chapter's example, and tables whose names lead on, round, and to no zone.
func TestKnown(t *testing.T) {
	asked := []string{"", "A", "B", "C", "D", "E", "a", "A ", "\xff"}
	tables := []api.Table{
		{},
		{Zones: zones("A")},
		{Zones: zones("A"), Links: links([2]string{"A", "B"}, [2]string{"B", "C"})},
		{Zones: zones("A"), Links: links([2]string{"B", "C"}, [2]string{"A", "B"})},
		{Zones: zones("A", "A", "B", "A"), Links: links([2]string{"A", "C"})},
		{Zones: zones("A", "B"), Links: links([2]string{"B", "A"})},
		{Zones: zones("A", "B"), Links: links([2]string{"B", "A"}, [2]string{"A", "B"})},
		{Zones: zones("A"), Links: links([2]string{"A", "A"})},
		{Zones: zones("A"), Links: links([2]string{"A", "B"}, [2]string{"C", "B"}, [2]string{"B", "D"})},
		{Zones: zones("A"), Links: links([2]string{"C", "B"}, [2]string{"A", "B"}, [2]string{"B", "D"})},
		{Zones: zones("A"), Links: links([2]string{"C", "D"}, [2]string{"D", "E"}, [2]string{"E", "C"}, [2]string{"C", "B"})},
		{Zones: zones("A"), Links: links([2]string{"x", "B"}, [2]string{"B", "C"})},
		{Zones: zones("", "\xff", "A ", "a"), Links: links([2]string{"", "A"}, [2]string{"\xff", "E"})},
		{Links: links([2]string{"A", "B"})},
	}
	for _, table := range tables {
		holds(t, table, asked)
	}
	b := book.New(tables[2])
	if got := b.Names(); !slices.Equal(got, []string{"A", "B", "C"}) {
		t.Errorf("names %q", got)
	}
	if got := b.Alias(0); !slices.Equal(got, []string{"A", "B", "C"}) {
		t.Errorf("names of 0 %q", got)
	}
	if zone, why := book.New(tables[10]).Find("B"); zone != 0 || why != api.ErrLoop {
		t.Errorf("B leads to %d, %d", zone, why)
	}
	if got := b.Alias(math.MinInt); len(got) > 0 {
		t.Errorf("names of the least place: %q", got)
	}
}

// Promises 29.1 and 29.2: any tables.
func TestAny(t *testing.T) {
	r := rand.New(rand.NewSource(29))
	all := []string{"", "A", "B", "C", "D", "E", "b", "Z"}
	for range 20000 {
		holds(t, tableOf(r, all), append(all, "x"))
	}
}

// Promise 29.1: names come in the order of their bytes.
func TestOrder(t *testing.T) {
	got := book.New(api.Table{Zones: zones("b", "a/b", "B", "_", "a", "a-b", "Z", "a_b", "\xff", "ab", "é")}).Names()
	want := []string{"B", "Z", "_", "a", "a-b", "a/b", "a_b", "ab", "b", "é", "\xff"}
	if !slices.Equal(got, want) {
		t.Errorf("names %q", got)
	}
}

// Promise 29.1: many links, one behind the other, whichever comes first, and many that go round.
func TestLong(t *testing.T) {
	const many = 100000
	for _, turn := range []func(l []api.Link){func([]api.Link) {}, slices.Reverse[[]api.Link]} {
		table := api.Table{Zones: zones("x", "0")}
		for i := range many {
			table.Links = append(table.Links, api.Link{Target: strconv.Itoa(i), Name: strconv.Itoa(i + 1)})
		}
		turn(table.Links)
		b := book.New(table)
		if zone, why := b.Find(strconv.Itoa(many)); zone != 1 || why != api.OK {
			t.Errorf("the last one leads to %d, %d", zone, why)
		}
		if n := len(b.Names()); n != many+2 {
			t.Errorf("%d names", n)
		}
		if n := len(b.Alias(1)); n != many+1 {
			t.Errorf("%d names of one zone", n)
		}
		table.Links = append(table.Links, api.Link{Target: strconv.Itoa(many), Name: "0"})
		b = book.New(table)
		if _, why := b.Find(strconv.Itoa(many / 2)); why != api.ErrLoop {
			t.Errorf("of links that go round: %d", why)
		}
		if got := b.Names(); !slices.Equal(got, []string{"x"}) {
			t.Errorf("names %q", got)
		}
	}
}

// Promise 29.1: a book is not changed by what becomes of the table, or of its answers.
func TestKept(t *testing.T) {
	table := api.Table{Zones: zones("A", "D"), Links: links([2]string{"A", "C"}, [2]string{"C", "B"})}
	b := book.New(table)
	table.Zones[0].Name, table.Zones[1].Name = "x", "y"
	table.Links[0].Target, table.Links[1].Name = "x", "y"
	for _, l := range [][]string{b.Names(), b.Alias(0)} {
		slices.Reverse(l)
		_ = append(l[:1], "q", "r")
	}
	if got := b.Names(); !slices.Equal(got, []string{"A", "B", "C", "D"}) {
		t.Errorf("names %q", got)
	}
	if got := b.Alias(0); !slices.Equal(got, []string{"A", "B", "C"}) {
		t.Errorf("names of 0 %q", got)
	}
	if zone, why := b.Find("B"); zone != 0 || why != api.OK {
		t.Errorf("B leads to %d, %d", zone, why)
	}
}

// Promise 29.1: the table is left as it is.
func TestUnchanged(t *testing.T) {
	table := api.Table{Zones: zones("B", "A", "B"), Links: links([2]string{"C", "B"}, [2]string{"A", "C"}, [2]string{"B", "C"})}
	z, l := slices.Clone(table.Zones), slices.Clone(table.Links)
	book.New(table)
	book.Twice(table)
	sameZone := func(a, b api.Zone) bool { return a.Name == b.Name }
	if !slices.EqualFunc(table.Zones, z, sameZone) || !slices.Equal(table.Links, l) {
		t.Errorf("it is %v", table)
	}
}

// Promise 29.2: known ones.
func TestTwice(t *testing.T) {
	tests := []struct {
		table      api.Table
		zone, link int
	}{
		{api.Table{}, -1, -1},
		{api.Table{Zones: zones("A", "B"), Links: links([2]string{"A", "C"}, [2]string{"A", "D"})}, -1, -1},
		{api.Table{Zones: zones("A", "a", "A", "A")}, 2, -1},
		{api.Table{Zones: zones("A", "B", "B", "A")}, 2, -1},
		{api.Table{Zones: zones("A", "A", "B"), Links: links([2]string{"x", "B"})}, 1, 0},
		{api.Table{Zones: zones("A", "B", "C"), Links: links([2]string{"A", "x"}, [2]string{"C", "y"}, [2]string{"A", "C"})}, -1, 2},
		{api.Table{Links: links([2]string{"A", "x"}, [2]string{"A", "y"}, [2]string{"B", "x"}, [2]string{"B", "y"})}, -1, 2},
		{api.Table{Zones: zones("", ""), Links: links([2]string{"", ""})}, 1, 0},
	}
	for _, test := range tests {
		if zone, link := book.Twice(test.table); zone != test.zone || link != test.link {
			t.Errorf("%v: %d and %d", test.table, zone, link)
		}
	}
}

// Promise 29.3: a nil book has nothing.
func TestNil(t *testing.T) {
	var b *book.Book
	for _, name := range []string{"", "A"} {
		if zone, why := b.Find(name); zone != 0 || why != api.ErrNone {
			t.Errorf("%q leads to %d, %d", name, zone, why)
		}
	}
	if len(b.Names()) > 0 || len(b.Alias(0)) > 0 || len(b.Alias(-1)) > 0 {
		t.Errorf("names %q, %q, %q", b.Names(), b.Alias(0), b.Alias(-1))
	}
	if book.New(api.Table{}) == nil {
		t.Error("the book of an empty table is nil")
	}
}

// Promises 29.4 and 29.5: each name is found where it is told, and there alone; each zone's own name leads to it, if nothing is there twice.
func TestByAllNames(t *testing.T) {
	r := rand.New(rand.NewSource(294))
	all := []string{"A", "B", "C", "D", "E", "F", "G", "H", "I", "J"}
	for range 5000 {
		table := tableOf(r, all)
		b := book.New(table)
		for _, name := range b.Names() {
			at, why := b.Find(name)
			if why != api.OK {
				t.Fatalf("%v: %q is not found: %d", table, name, why)
			}
			for zone := range table.Zones {
				if _, is := slices.BinarySearch(b.Alias(zone), name); is != (zone == at) {
					t.Fatalf("%v: %q among the names of %d: %v", table, name, zone, is)
				}
			}
		}
		if zone, link := book.Twice(table); zone >= 0 || link >= 0 {
			continue
		}
		for place, z := range table.Zones {
			if at, why := b.Find(z.Name); at != place || why != api.OK {
				t.Fatalf("%v: %q leads to %d, %d", table, z.Name, at, why)
			}
		}
	}
}
