package load_test

import (
	"math/rand"
	"slices"
	"strconv"
	"strings"
	"testing"

	"noontide/api"
	"noontide/check"
	"noontide/load"
	"noontide/read"
	"noontide/render"
)

const mostSource = 1 << 20

// beginning is the end of an era with a year.
func beginning(year int) api.Until {
	return api.Until{Has: true, Year: year, Month: 1, On: api.On{Day: 1}}
}

// once is a rule of the first day of a year.
func once(name string, year int) api.Rule {
	return api.Rule{Name: name, From: year, To: year, Month: 1, On: api.On{Day: 1}}
}

// some is a table of all kinds of parts, with which nothing is wrong.
func some() api.Table {
	return api.Table{
		Rules: []api.Rule{once("R", 1940), once("R", 1943)},
		Zones: []api.Zone{{Name: "A", Eras: []api.Era{{Format: "X", Until: beginning(1950)}, {Kind: api.RulesNamed, Rules: "R", Format: "X"}}}, {Name: "B", Eras: []api.Era{{Format: "Y"}}}},
		Links: []api.Link{{Target: "A", Name: "C"}, {Target: "C", Name: "D"}},
	}
}

const someText = `Rule R 1940 only - Jan 1 0 0 -
Rule R 1943 only - Jan 1 0 0 -
Zone A 0 - X 1950
 0 R X
Zone B 0 - Y
Link A C
Link C D
`

// Promise 32.1: sources that are taken.
func TestTaken(t *testing.T) {
	all := some()
	tests := []struct {
		src   string
		table api.Table
	}{
		{"", api.Table{}},
		{"# Zone A\n\n \t\n", api.Table{}},
		{"Zone B 0 - Y", api.Table{Zones: all.Zones[1:]}},
		{"Rule R 1940 o - Ja 1 0 0 -", api.Table{Rules: all.Rules[:1]}},
		{someText, all},
		{"l C D # D\nz A 0 - X 1950\n\n0 R X\nl A C\nr R 1940 o - ja 1 0 0 -\nz B 0 - Y\nr R 1943 o - ja 1 - - -", api.Table{Rules: all.Rules, Zones: all.Zones, Links: []api.Link{all.Links[1], all.Links[0]}}},
	}
	for _, x := range tests {
		if got, fault := load.Source(x.src); fault != (api.Fault{}) || !render.Same(got, x.table) {
			t.Errorf("%q: %v, %v; not %v", x.src, got, fault, x.table)
		}
	}
}

// Promise 32.1: what can't be read is told ahead of what doesn't fit, wherever both stand; beside either there is no table.
func TestNotTaken(t *testing.T) {
	tests := []struct {
		src  string
		line int
		why  api.Errno
	}{
		{"Zone A 0 EU UTC", 1, api.ErrNone},
		{"Zone A 0 EU", 1, api.ErrShort},
		{"\nZone A 0 - UTC\nZone A 0 - UTC", 3, api.ErrTwice},
		{"Zone A 0 - UTC\nZone C 0 - X\nLink A B\nLink C A", 4, api.ErrTwice},
		{"Zone A 0 - UTC\nLink A B\nLink B A", 2, api.ErrLoop},
		{"Link B A\n\nLink A B", 1, api.ErrLoop},
		{"Zone A 0 - X 1950\n0 - X 1950\n0 - X", 2, api.ErrOrder},
		{"Zone A 0 - X 1950\n0 - X 1950 Jan 4\n0 - X", 2, api.ErrClose},
		{"Rule R 1940 o - Ja 1 0 0 -\nRule R 1940 o - Ja 4 0 0 -", 2, api.ErrClose},
		{"Zone A 0 - X 1950", 1, api.ErrOpen},
		{"Zone A 0 EU X 1950", 1, api.ErrOpen},
		{"Zone A 0 EU UTC\nx", 2, api.ErrWord},
		{"Zone A 0 EU UTC\nZone B 0 - X 1950\n\n", 2, api.ErrOpen},
		{"Link A B\nLink A A", 2, api.ErrLoop},
		{"Link A B\nLink A B\x00", 2, api.ErrByte},
		{"Link A B\nLink A B\nLink B C", 1, api.ErrNone},
		{"Link A B\n" + strings.Repeat(" ", mostSource-9), 2, api.ErrLong},
		{"Link A B\n" + strings.Repeat("\n", mostSource-9), 1, api.ErrNone},
		{"Link A B\n" + strings.Repeat("\n", mostSource-8), 0, api.ErrLong},
		{"Zone A 0 - X\n" + strings.Repeat("Link A B\n", api.MaxLinks+1), api.MaxLinks + 2, api.ErrFull},
		{"Zone A 0 - X\n" + strings.Repeat("Link A B\n", api.MaxLinks), 3, api.ErrTwice},
	}
	for _, x := range tests {
		got, fault := load.Source(x.src)
		if want := (api.Fault{Line: x.line, Err: x.why}); fault != want || !render.Same(got, api.Table{}) {
			t.Errorf("%.100q: %v, %v; not %v", x.src, got, fault, want)
		}
	}
}

// long is a table of as many zones as there may be, which has a source of so many bytes.
func long(bytes int) api.Table {
	var t api.Table
	for i := range api.MaxZones {
		z := api.Zone{Name: "Z" + strconv.Itoa(i)}
		for k := range 75 {
			z.Eras = append(z.Eras, api.Era{Format: "X", Until: beginning(1950 + k)})
		}
		z.Eras = append(z.Eras, api.Era{Format: "X"})
		t.Zones = append(t.Zones, z)
	}
	text, _ := render.Text(t)
	left := bytes - len(text)
	for i := range t.Zones {
		for k := range t.Zones[i].Eras {
			more := min(left, api.MaxFormat-1)
			t.Zones[i].Eras[k].Format += strings.Repeat("X", more)
			left -= more
		}
	}
	return t
}

// Promise 32.2: tables that a source could tell, and others, each told by the first thing that is wrong with it.
func TestTable(t *testing.T) {
	rules := func(many int) []api.Rule {
		var l []api.Rule
		for i := range many {
			l = append(l, once("R"+strconv.Itoa(i), 1940))
		}
		return l
	}
	zones := func(many int) []api.Zone {
		var l []api.Zone
		for i := range many {
			l = append(l, api.Zone{Name: "Z" + strconv.Itoa(i), Eras: []api.Era{{Format: "X"}}})
		}
		return l
	}
	links := func(many int) []api.Link {
		var l []api.Link
		for i := range many {
			l = append(l, api.Link{Target: "Z0", Name: "L" + strconv.Itoa(i)})
		}
		return l
	}
	eras := func(many int) []api.Era {
		var l []api.Era
		for i := range many - 1 {
			l = append(l, api.Era{Format: "X", Until: beginning(1950 + i)})
		}
		return append(l, api.Era{Format: "X"})
	}
	tests := []struct {
		table api.Table
		why   api.Errno
	}{
		{api.Table{}, api.OK},
		{some(), api.OK},
		{api.Table{Rules: rules(api.MaxRules)}, api.OK},
		{api.Table{Rules: rules(api.MaxRules + 1)}, api.ErrFull},
		{api.Table{Zones: zones(api.MaxZones)}, api.OK},
		{api.Table{Zones: zones(api.MaxZones + 1)}, api.ErrFull},
		{api.Table{Zones: zones(1), Links: links(api.MaxLinks)}, api.OK},
		{api.Table{Zones: zones(1), Links: links(api.MaxLinks + 1)}, api.ErrFull},
		{api.Table{Zones: []api.Zone{{Name: "A", Eras: eras(api.MaxEras)}}}, api.OK},
		{api.Table{Zones: []api.Zone{{Name: "A", Eras: eras(api.MaxEras + 1)}}}, api.ErrFull},
		{api.Table{Zones: append(zones(3), api.Zone{Name: "A", Eras: eras(api.MaxEras)})}, api.OK},
		{api.Table{Zones: append(zones(3), api.Zone{Name: "A", Eras: eras(api.MaxEras + 1)})}, api.ErrFull},
		{api.Table{Rules: rules(api.MaxRules), Zones: zones(api.MaxZones), Links: links(api.MaxLinks)}, api.OK},
		// What may not be is told ahead of what is too much, and this ahead of what is too long, and that ahead of what doesn't fit.
		{api.Table{Zones: []api.Zone{{}}}, api.ErrForm},
		{api.Table{Rules: append(rules(api.MaxRules), api.Rule{})}, api.ErrForm},
		{api.Table{Zones: zones(api.MaxZones + 1), Links: []api.Link{{}}}, api.ErrForm},
		{api.Table{Zones: append(long(mostSource + 1).Zones[1:], api.Zone{})}, api.ErrForm},
		{api.Table{Zones: long(mostSource + 1).Zones, Rules: rules(api.MaxRules + 1)}, api.ErrFull},
		{api.Table{Zones: append(long(mostSource+1).Zones, zones(1)...)}, api.ErrFull},
		{api.Table{Zones: long(mostSource + 1).Zones, Links: links(api.MaxLinks + 1)}, api.ErrFull},
		{api.Table{Zones: append(long(mostSource + 50).Zones[1:], api.Zone{Name: "A", Eras: eras(api.MaxEras + 1)})}, api.ErrFull},
		{api.Table{Links: slices.Repeat(links(1), api.MaxLinks+1)}, api.ErrFull},
		{long(mostSource), api.OK},
		{long(mostSource + 1), api.ErrLong},
		{api.Table{Zones: long(mostSource + 1).Zones, Links: slices.Repeat(links(1), 2)}, api.ErrLong},
		{api.Table{Links: []api.Link{{Target: "a", Name: "b"}}}, api.ErrNone},
		{api.Table{Zones: zones(1), Links: slices.Repeat(links(1), 2)}, api.ErrTwice},
		{api.Table{Zones: slices.Repeat(zones(1), 2)}, api.ErrTwice},
		{api.Table{Rules: slices.Repeat(rules(1), 2)}, api.ErrClose},
		{api.Table{Links: []api.Link{{Target: "a", Name: "b"}, {Target: "b", Name: "a"}}}, api.ErrLoop},
		{api.Table{Zones: []api.Zone{{Name: "A", Eras: []api.Era{eras(3)[1], eras(3)[0], eras(3)[2]}}}}, api.ErrOrder},
		// The source has rules ahead of zones, and these ahead of links.
		{api.Table{Links: []api.Link{{Target: "a", Name: "b"}}, Zones: slices.Repeat(zones(1), 2)}, api.ErrTwice},
		{api.Table{Zones: slices.Repeat(zones(1), 2), Rules: slices.Repeat(rules(1), 2)}, api.ErrClose},
	}
	for i, x := range tests {
		if why := load.Table(x.table); why != x.why {
			t.Errorf("test %d: %d, not %d", i, why, x.why)
		}
	}
}

// The tables that are long are so to the byte.
func TestLong(t *testing.T) {
	for _, bytes := range []int{mostSource, mostSource + 1} {
		if text, why := render.Text(long(bytes)); len(text) != bytes || why != api.OK {
			t.Errorf("%d bytes: %d, %d", bytes, len(text), why)
		}
	}
}

// anyLines are lines of a source, some of which are wrong, or don't fit.
func anyLines(r *rand.Rand) []string {
	name := func(from rune, many int) string { return string(from + rune(r.Intn(many))) }
	year := func() string { return strconv.Itoa(1940 + r.Intn(8)) }
	var l []string
	for range r.Intn(8) {
		switch r.Intn(20) {
		case 0:
			l = append(l, []string{"x", "Rule", "Link A", "\"", "\x00", "Link A A", "Zone 1 0 - X"}[r.Intn(7)])
		case 1, 2:
			l = append(l, []string{"", "# x", " \t"}[r.Intn(3)])
		case 3, 4, 5, 6, 7:
			l = append(l, "Link "+name('A', 14)+" "+name('A', 14))
		case 8, 9, 10, 11:
			l = append(l, "Rule "+name('R', 3)+" "+year()+" o - Jun "+strconv.Itoa(1+r.Intn(28))+" 0u 0 -")
		default:
			l = append(l, "Zone "+name('A', 14)+anyEras(r, name, year))
		}
	}
	return l
}

// anyEras are fields, and lines, of a zone's eras; sometimes the last one lacks.
func anyEras(r *rand.Rand, name func(from rune, many int) string, year func() string) string {
	era := func() string {
		return " 0 " + []string{"-", "1:00", name('R', 3)}[r.Intn(3)] + " X"
	}
	var l []string
	for range r.Intn(3) {
		l = append(l, era()+" "+year()+[]string{" Jun 10 0u", " Jul", "", " Jun 1"}[r.Intn(4)])
	}
	if len(l) == 0 || r.Intn(30) > 0 {
		l = append(l, era())
	}
	return strings.Join(l, "\n")
}

// Promises 32.1, 32.3 and 32.4: any sources.
func TestAny(t *testing.T) {
	r := rand.New(rand.NewSource(32))
	told := map[api.Errno]int{}
	for range 40000 {
		lines := anyLines(r)
		src := strings.Join(lines, "\n")
		table, where, fault := read.Table(src)
		isRead := fault == (api.Fault{})
		if isRead {
			fault = check.Check(table, where)
		}
		if fault != (api.Fault{}) {
			table = api.Table{}
		}
		got, gotFault := load.Source(src)
		if gotFault != fault || !render.Same(got, table) {
			t.Fatalf("%q: %v, %v; not %v, %v", src, got, gotFault, table, fault)
		}
		told[fault.Err]++
		if fault == (api.Fault{}) {
			thereAndBack(t, table)
		} else {
			inOrder(t, src, fault, isRead)
		}
	}
	for _, why := range []api.Errno{api.OK, api.ErrTwice, api.ErrNone, api.ErrLoop, api.ErrOrder, api.ErrClose, api.ErrOpen, api.ErrWord, api.ErrByte} {
		if told[why] < 30 {
			t.Errorf("%d was told but %d times", why, told[why])
		}
	}
}

// thereAndBack asks for a table that is taken.
func thereAndBack(t *testing.T, table api.Table) {
	t.Helper()
	text, why := render.Text(table)
	again, fault := load.Source(text)
	if why != api.OK || fault != (api.Fault{}) || !render.Same(again, table) {
		t.Fatalf("%v has the text %q, %d, and that tells %v, %v", table, text, why, again, fault)
	}
	if why := load.Table(table); why != api.OK {
		t.Fatalf("%v could not be told: %d", table, why)
	}
}

// inOrder asks for what stands ahead of a fault; what can't be read is told ahead of what doesn't fit, so that of that alone nothing stands ahead of it.
func inOrder(t *testing.T, src string, fault api.Fault, isRead bool) {
	t.Helper()
	ahead := strings.Join(strings.Split(src, "\n")[:fault.Line-1], "\n")
	_, left := load.Source(ahead)
	if !isRead {
		_, _, left = read.Table(ahead)
	}
	switch left.Err {
	case api.OK, api.ErrOpen, api.ErrNone:
	default:
		t.Fatalf("%q tells %v, but ahead of that %v", src, fault, left)
	}
}

// Promise 32.2: a table that is asked for is left as it is.
func TestUnchanged(t *testing.T) {
	table := some()
	load.Table(table)
	if !render.Same(table, some()) {
		t.Error(table)
	}
}

// Promise 32.1: an answer is new memory.
func TestNewMemory(t *testing.T) {
	a, _ := load.Source(someText)
	b, _ := load.Source(someText)
	clear(a.Rules)
	clear(a.Zones[0].Eras)
	clear(a.Zones)
	clear(a.Links)
	if !render.Same(b, some()) {
		t.Error(b)
	}
}
