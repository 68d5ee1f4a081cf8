package read_test

import (
	"math/rand"
	"reflect"
	"slices"
	"strings"
	"testing"

	"noontide/api"
	"noontide/era"
	"noontide/fields"
	"noontide/lines"
	"noontide/link"
	"noontide/read"
	"noontide/rule"
)

const (
	mostSource = 1 << 20
	mostRules  = 4096
	mostZones  = 1024
	mostEras   = 256
	mostLinks  = 1024
)

// said is all that Table answers.
type said struct {
	table api.Table
	where api.Where
	fault api.Fault
}

func ask(src string) said {
	table, where, fault := read.Table(src)
	return said{table, where, fault}
}

// alike holds lists that are nil, and such without elements, for one.
func alike(a, b said) bool {
	return a.fault == b.fault &&
		slices.Equal(a.table.Rules, b.table.Rules) && slices.Equal(a.table.Links, b.table.Links) && slices.EqualFunc(a.table.Zones, b.table.Zones, sameZone) &&
		slices.Equal(a.where.Rules, b.where.Rules) && slices.Equal(a.where.Links, b.where.Links) && slices.EqualFunc(a.where.Eras, b.where.Eras, slices.Equal[[]int])
}

func sameZone(a, b api.Zone) bool {
	return a.Name == b.Name && slices.Equal(a.Eras, b.Eras)
}

func at(year int) api.Until {
	return api.Until{Has: true, Year: year, Month: 1, On: api.On{Day: 1}}
}

func ruleOf(name string) api.Rule {
	return api.Rule{Name: name, From: 1, To: 1, Month: 1, On: api.On{Day: 1}}
}

// Promise 24.1: known sources.
func TestKnown(t *testing.T) {
	x, y := api.Era{Off: 3600, Format: "X", Until: at(1950)}, api.Era{Off: 7200, Format: "Y"}
	tests := []struct {
		src   string
		table api.Table
		where api.Where
	}{
		{"", api.Table{}, api.Where{}},
		{"\n", api.Table{}, api.Where{}},
		{"\n \t\n# Zone A\n\t\t#", api.Table{}, api.Where{}},
		{"Rul A 1 only - Jan 1 0 0 -", api.Table{Rules: []api.Rule{ruleOf("A")}}, api.Where{Rules: []int{1}}},
		{"Zone A 1:00 - X 1950\n2:00 - Y", api.Table{Zones: []api.Zone{{Name: "A", Eras: []api.Era{x, y}}}}, api.Where{Eras: [][]int{{1, 2}}}},
		{"Zone Rule 2:00 - Y", api.Table{Zones: []api.Zone{{Name: "Rule", Eras: []api.Era{y}}}}, api.Where{Eras: [][]int{{1}}}},
		{"# x\nZone A 1:00 - X 1950\n\n 2:00 - Y # y\nlink A B\nRul A 1 only - Jan 1 0 0 -", api.Table{
			Rules: []api.Rule{ruleOf("A")}, Zones: []api.Zone{{Name: "A", Eras: []api.Era{x, y}}}, Links: []api.Link{{Target: "A", Name: "B"}},
		}, api.Where{Rules: []int{6}, Eras: [][]int{{2, 4}}, Links: []int{5}}},
		{"L A B\nZ A 2 - Y\nL C D\nR B 1 o - Ja 1 0 0 -\nZ A 1 - X 1950\n1 - X 1950\n2 - Y\nR A 1 o - Ja 1 0 0 -\nL A B\nR A 1 o - Ja 1 0 0 -\n", api.Table{
			Rules: []api.Rule{ruleOf("B"), ruleOf("A"), ruleOf("A")},
			Zones: []api.Zone{{Name: "A", Eras: []api.Era{y}}, {Name: "A", Eras: []api.Era{x, x, y}}},
			Links: []api.Link{{Target: "A", Name: "B"}, {Target: "C", Name: "D"}, {Target: "A", Name: "B"}},
		}, api.Where{Rules: []int{4, 8, 10}, Eras: [][]int{{2}, {5, 6, 7}}, Links: []int{1, 3, 9}}},
	}
	for _, x := range tests {
		want := said{x.table, x.where, api.Fault{}}
		if got := ask(x.src); !alike(got, want) {
			t.Errorf("%q: %v; not %v", x.src, got, want)
		}
	}
}

// Promises 24.1 and 24.2: what is wrong, and which wrong thing is told.
func TestFaults(t *testing.T) {
	long := strings.Repeat("x", 512)
	tests := []struct {
		src  string
		line int
		why  api.Errno
	}{
		{long, 1, api.ErrLong},
		{"#" + long, 1, api.ErrLong},
		{strings.Repeat(" ", 512), 1, api.ErrLong},
		{long + "\x00\"", 1, api.ErrLong},
		{"\n\n" + long + "\nx", 3, api.ErrLong},
		{"#\x00", 1, api.ErrByte},
		{"# \xe9", 1, api.ErrByte},
		{"\r\n", 1, api.ErrByte},
		{"\x7f\"", 1, api.ErrByte},
		{"\"\x00", 1, api.ErrByte},
		{"\n\"\nx", 2, api.ErrQuote},
		{"x \"", 1, api.ErrQuote},
		{"Zone A 1 - X 1950 \"", 1, api.ErrQuote},
		{"a b c d e f g h i j k l m n o p q", 1, api.ErrMore},
		{"x", 1, api.ErrWord},
		{"\"\"", 1, api.ErrWord},
		{"\n\"\"#", 2, api.ErrWord},
		{"\"\" A 1 - X", 1, api.ErrWord},
		{"Rules A 1 o - Ja 1 0 0 -", 1, api.ErrWord},
		{"Zones A 2 - Y", 1, api.ErrWord},
		{"\"Link \" A B", 1, api.ErrWord},
		{"1 - X", 1, api.ErrWord},
		{"Zone A 2 - Y\n2 - Y", 2, api.ErrWord},
		{"\nx\n\x00", 2, api.ErrWord},
		{"\x00\nx", 1, api.ErrByte},
		{"Rule", 1, api.ErrShort},
		{"Rule A 1 o - Ja 1 0 0", 1, api.ErrShort},
		{"Rule A 1 o - Ja 1 0 0 - x", 1, api.ErrMore},
		{"Rule 1 x o - Ja 1 0 0 -", 1, api.ErrName},
		{"Rule A x o - Ja 1 0 0 -", 1, api.ErrWord},
		{"Rule A 1 0 - Ja 1 0 0 -", 1, api.ErrOrder},
		{"Link", 1, api.ErrShort},
		{"Link A", 1, api.ErrShort},
		{"Link A B C", 1, api.ErrMore},
		{"Link A 1", 1, api.ErrName},
		{"Link A A", 1, api.ErrLoop},
		{"Zone", 1, api.ErrShort},
		{"Zone 1", 1, api.ErrName},
		{"Zone 1 x", 1, api.ErrName},
		{"Zone \"\" 1 - X", 1, api.ErrName},
		{"Zone " + strings.Repeat("a", 65) + " 1 - X", 1, api.ErrLong},
		{"Zone A", 1, api.ErrShort},
		{"Zone A 1 -", 1, api.ErrShort},
		{"Zo A x y z", 1, api.ErrNumber},
		{"Zone A 1 - X 1950 Jan 1 0 0", 1, api.ErrMore},
		{"Zone A 1 - % 1950", 1, api.ErrForm},
		{"Zone A 1 - X 1950\nx", 2, api.ErrShort},
		{"Zone A 1 - X 1950\nRule A 1 only - Jan 1 0 0 -", 2, api.ErrMore},
		{"Zone A 1 - X 1950\nZone A 1 - X", 2, api.ErrNumber},
		{"Zone A 1 - X 1950\nL - Y", 2, api.ErrNumber},
		{"Zone A 1 - X 1950\n\nLink A B", 3, api.ErrNumber},
		{"Zone A 1 - X 1950\n# \n\"", 3, api.ErrQuote},
		{"Zone A 1 - X 1950\n1 - X 1950\n\n1 x% X", 4, api.ErrName},
		{"Zone A 1 - X 1950\n\x00", 2, api.ErrByte},
		{"Zone A 1 - X 1950", 1, api.ErrOpen},
		{"Zone A 1 - X 1950\n#\n", 1, api.ErrOpen},
		{"Zone A 1 - X 1950\n#\n1 - X 1950\n\n#\n", 3, api.ErrOpen},
		{"Zone A 1 - X\nLink A B\nZone A 1 - X 1950\n1 - X 1950\n", 4, api.ErrOpen},
		{"Zone A 1 - X\nZone B 1 - X 1950 Jan 1 0", 2, api.ErrOpen},
	}
	for _, x := range tests {
		if got, want := ask(x.src), (said{fault: api.Fault{Line: x.line, Err: x.why}}); !alike(got, want) {
			t.Errorf("%.100q: %v; not %v", x.src, got, want.fault)
		}
	}
}

// Promise 24.1: how great a source, and how long a line, may be; what is too great is told ahead of all.
func TestSize(t *testing.T) {
	comment := "#" + strings.Repeat("x", 510) + "\n"
	full := "Link A B\n" + strings.Repeat(comment, 2047) + "#" + strings.Repeat("x", 400) + "\n"
	full += strings.Repeat("\n", mostSource-len(full))
	want := said{api.Table{Links: []api.Link{{Target: "A", Name: "B"}}}, api.Where{Links: []int{1}}, api.Fault{}}
	if got := ask(full); !alike(got, want) {
		t.Error(got.fault)
	}
	great := said{fault: api.Fault{Line: 0, Err: api.ErrLong}}
	for _, src := range []string{full + "\n", full + "x", "x\n" + full, strings.Repeat("\x00", mostSource+1), strings.Repeat("x", 3*mostSource)} {
		if got := ask(src); !alike(got, great) {
			t.Error(got.fault)
		}
	}
	for _, src := range []string{full[:mostSource-1] + "x", full[:mostSource-2] + "x\n"} {
		if got := ask(src); got.fault.Err != api.ErrWord || got.fault.Line < 2048 || !alike(got, said{fault: got.fault}) {
			t.Error(got.fault)
		}
	}
}

// Promise 24.2: as many as there may be, and one more; what is wrong with that one itself is told ahead of it.
func TestFull(t *testing.T) {
	tests := []struct {
		begin, one, end string
		most            int
		wrong           string
		why             api.Errno
	}{
		{"", "R A 1 o - Ja 1 0 0 -\n", "", mostRules, "R A 1 o - Ja 1 0 0 x x\n", api.ErrMore},
		{"", "L A B\n", "", mostLinks, "L A A\n", api.ErrLoop},
		{"", "Z A 1 - X\n", "", mostZones, "Z A 1 - %\n", api.ErrForm},
		{"", "Z A 1 - X\n", "", mostZones, "Z 1 1 - X\n", api.ErrName},
		{"Z A 1 - X 1950\n", "1 - X 1950\n", "1 - X", mostEras - 2, "1 - X 32767", api.ErrRange},
	}
	for _, x := range tests {
		full := x.begin + strings.Repeat(x.one, x.most)
		got := ask(full + x.end)
		if got.fault != (api.Fault{}) {
			t.Errorf("%d of %q: %v", x.most, x.one, got.fault)
		}
		n, eras := len(got.table.Rules)+len(got.table.Links)+len(got.table.Zones), 0
		for _, l := range got.where.Eras {
			eras += len(l)
		}
		if x.begin == "" && n != x.most || x.begin != "" && (n != 1 || eras != mostEras) {
			t.Errorf("%d of %q: %d, and %d eras", x.most, x.one, n, eras)
		}
		// Eras are full with one more, since the end took a place.
		if x.end != "" {
			full += x.one
		}
		line := strings.Count(full, "\n") + 1
		if got, want := ask(full+x.one+x.end), (said{fault: api.Fault{Line: line, Err: api.ErrFull}}); !alike(got, want) {
			t.Errorf("%d of %q, and one: %v; not %v", x.most, x.one, got.fault, want.fault)
		}
		if got, want := ask(full+x.wrong+x.end), (said{fault: api.Fault{Line: line, Err: x.why}}); !alike(got, want) {
			t.Errorf("%d of %q, and %q: %v; not %v", x.most, x.one, x.wrong, got.fault, want.fault)
		}
	}
}

// Promise 24.2: each list is full by itself, and each zone.
func TestFullTogether(t *testing.T) {
	eras := "Z A 1 - X 1950\n" + strings.Repeat("1 - X 1950\n", mostEras-2) + "1 - X\n"
	src := strings.Repeat(eras, 100) + strings.Repeat("L A B\n", mostLinks) + strings.Repeat("Z A 1 - X\n", mostZones-100) + strings.Repeat("R A 1 o - Ja 1 0 0 -\n", mostRules)
	got := ask(src)
	if got.fault != (api.Fault{}) || len(got.table.Rules) != mostRules || len(got.table.Links) != mostLinks || len(got.table.Zones) != mostZones {
		t.Error(got.fault)
	}
	places := strings.Count(src, "\n")
	for _, more := range []string{"R A 1 o - Ja 1 0 0 -", "L A B", "Z A 1 - X", "Z A 1 - X 1950"} {
		if got, want := ask(src+more), (said{fault: api.Fault{Line: places + 1, Err: api.ErrFull}}); !alike(got, want) {
			t.Errorf("%s: %v; not %v", more, got.fault, want.fault)
		}
	}
}

// Promise 24.1: an answer is new memory, no two lists of which share any.
func TestNewMemory(t *testing.T) {
	const src = "Z A 1 - X 1950\n1 - X\nZ B 1 - X 1950\n1 - X\nL A B\nR A 1 o - Ja 1 0 0 -\n"
	a, b := ask(src), ask(src)
	for i := range a.table.Zones {
		_ = append(a.table.Zones[i].Eras[:1], api.Era{})
		_ = append(a.where.Eras[i][:1], 9)
		clear(a.table.Zones[i].Eras[1:])
		clear(a.where.Eras[i][1:])
	}
	clear(a.table.Rules)
	clear(a.table.Links)
	clear(a.where.Rules)
	clear(a.where.Links)
	if a.table.Zones[0].Eras[0] != a.table.Zones[1].Eras[0] || a.table.Zones[1].Eras[0].Format != "X" || a.where.Eras[1][0] != 3 {
		t.Error("lists share memory:", a)
	}
	if !alike(b, ask(src)) || len(b.table.Zones) != 2 || b.where.Eras[1][1] != 4 || b.where.Links[0] != 5 || b.where.Rules[0] != 6 {
		t.Error("an answer is changed by another one:", b)
	}
}

// rightLines are some of each word; next are eras behind one that has an end, of which the first ones have none.
var rightLines = []string{
	"Rule A 1 only - Jan 1 0 0 -", "Rule EU 1981 max - Mar lastSun 1:00u 1:00 S", "Rule _ min 5 - Feb Sun>=28 48:00s -3:00 abcdef",
	"Link A B", "Link Etc/GMT-1 b", "Link A B",
	"Zone A 1:00 - X", "Zone B -5:00 US E%sT", "Zone C/d 0 1:00 GMT/BST",
	"Zone A 1:00 - X 1950", "Zone D 15:00 -3:00 %z -32766 Dec 31 48:00u", "Zone A 0 A a 0 Oct lastSun",
}

var next = []string{"2:00 - Y", "-5:00 US E%sT", "0 0 X", "1:00 - X 1950", "2:00 - Y 5 Feb", "-15:00 Rule %z 32766 Dec 31 2:00s"}

// noisy writes fields with blanks, marks and a remark more, and the first one, if it is a word, shorter, and in large and small letters.
func noisy(r *rand.Rand, f []string, isWord bool) string {
	blanks := func(least int) string {
		return strings.Repeat([]string{" ", "\t", " \t"}[r.Intn(3)], least+r.Intn(2))
	}
	line := blanks(0)
	for i, one := range f {
		if i == 0 && isWord {
			one = mixed(r, one[:1+r.Intn(len(one))])
		}
		if r.Intn(4) == 0 {
			from := r.Intn(len(one) + 1)
			to := from + r.Intn(len(one)-from+1)
			one = one[:from] + "\"" + one[from:to] + "\"" + one[to:]
		}
		if i > 0 {
			line += blanks(1)
		}
		line += one
	}
	if r.Intn(3) == 0 {
		line += blanks(0) + "# \" Zone" + blanks(0)
	}
	return line
}

func mixed(r *rand.Rand, s string) string {
	b := []byte(s)
	for i := range b {
		if r.Intn(2) == 0 {
			b[i] = strings.ToUpper(s)[i]
		} else {
			b[i] = strings.ToLower(s)[i]
		}
	}
	return string(b)
}

// builder puts a source together, and what it says.
type builder struct {
	r    *rand.Rand
	src  []string
	want said
}

// put adds a line, behind some that say nothing.
func (b *builder) put(line string, isWord bool) (f []string, n int) {
	for b.r.Intn(3) == 0 {
		b.src = append(b.src, []string{"", " \t", "#", "  # Rule A", "# \""}[b.r.Intn(5)])
	}
	f = strings.Fields(line)
	b.src = append(b.src, noisy(b.r, f, isWord))
	return f, len(b.src)
}

// right adds a line that is right, and the eras that belong to it.
func (b *builder) right(line string) {
	f, n := b.put(line, true)
	table, where := &b.want.table, &b.want.where
	switch f[0] {
	case "Rule":
		one, _ := rule.Read(f[1:])
		table.Rules, where.Rules = append(table.Rules, one), append(where.Rules, n)
	case "Link":
		table.Links, where.Links = append(table.Links, api.Link{Target: f[1], Name: f[2]}), append(where.Links, n)
	case "Zone":
		one, _ := era.Read(f[2:])
		zone, places := api.Zone{Name: f[1], Eras: []api.Era{one}}, []int{n}
		for one.Until.Has {
			f, n := b.put(next[b.r.Intn(len(next))], false)
			one, _ = era.Read(f)
			zone.Eras, places = append(zone.Eras, one), append(places, n)
		}
		table.Zones, where.Eras = append(table.Zones, zone), append(where.Eras, places)
	}
}

// Promises 24.1, 24.3 and 24.4: any sources that are right; all that is read may be.
func TestAny(t *testing.T) {
	r := rand.New(rand.NewSource(24))
	for range 5000 {
		b := builder{r: r}
		for range r.Intn(12) {
			b.right(rightLines[r.Intn(len(rightLines))])
		}
		src := strings.Join(b.src, "\n") + []string{"", "\n", "\n\n#"}[r.Intn(3)]
		got := ask(src)
		if !alike(got, b.want) {
			t.Fatalf("%q: %v; not %v", src, got, b.want)
		}
		mayBe(t, got.table)
	}
}

func mayBe(t *testing.T, table api.Table) {
	t.Helper()
	for _, one := range table.Rules {
		if !rule.Right(one) {
			t.Errorf("%v is read, but not right", one)
		}
	}
	for _, one := range table.Links {
		if !link.Right(one) {
			t.Errorf("%v is read, but not right", one)
		}
	}
	for _, zone := range table.Zones {
		if rule.Name(zone.Name) != api.OK || len(zone.Eras) == 0 {
			t.Errorf("%v is read, but not right", zone)
		}
		for i, one := range zone.Eras {
			if !era.Right(one) || one.Until.Has != (i < len(zone.Eras)-1) {
				t.Errorf("%v is read, but not right", zone)
			}
		}
	}
}

// model goes by the words, with what is told by the layers below.
func model(src string) said {
	var m said
	open := 0
	fail := func(line int, why api.Errno) said { return said{fault: api.Fault{Line: line, Err: why}} }
	for i, line := range lines.Of(src) {
		if why := lines.Check(line); why != api.OK {
			return fail(i+1, why)
		}
		f, why := fields.Of(line)
		if why != api.OK {
			return fail(i+1, why)
		}
		if len(f) == 0 {
			continue
		}
		zone := []string{}
		if open == 0 {
			lower := strings.ToLower(f[0])
			switch {
			case lower == "":
				return fail(i+1, api.ErrWord)
			case strings.HasPrefix("rule", lower):
				one, why := rule.Read(f[1:])
				if why != api.OK {
					return fail(i+1, why)
				}
				m.table.Rules, m.where.Rules = append(m.table.Rules, one), append(m.where.Rules, i+1)
				continue
			case strings.HasPrefix("link", lower):
				one, why := link.Read(f[1:])
				if why != api.OK {
					return fail(i+1, why)
				}
				m.table.Links, m.where.Links = append(m.table.Links, one), append(m.where.Links, i+1)
				continue
			case !strings.HasPrefix("zone", lower):
				return fail(i+1, api.ErrWord)
			case len(f) == 1:
				return fail(i+1, api.ErrShort)
			case rule.Name(f[1]) != api.OK:
				return fail(i+1, rule.Name(f[1]))
			}
			zone, f = f[1:2], f[2:]
		}
		one, why := era.Read(f)
		if why != api.OK {
			return fail(i+1, why)
		}
		for _, name := range zone {
			m.table.Zones, m.where.Eras = append(m.table.Zones, api.Zone{Name: name}), append(m.where.Eras, nil)
		}
		last := len(m.table.Zones) - 1
		m.table.Zones[last].Eras, m.where.Eras[last] = append(m.table.Zones[last].Eras, one), append(m.where.Eras[last], i+1)
		open = 0
		if one.Until.Has {
			open = i + 1
		}
	}
	if open != 0 {
		return fail(open, api.ErrOpen)
	}
	return m
}

// Promises 24.1 and 24.2: any lines, right and wrong ones, one behind the other.
func TestAnyLines(t *testing.T) {
	wrong := []string{"x", "\"", "\x00", "Zone", "Zone 1", "Zone A", "Zone A 1 - X 32767", "Link A A", "Link A", "Rule A", "Rule A 1 o - Ja 1 0 0 - x", "1 - X", "1 - X 1950 Feb 29", "a b c d e f g h i j k l m n o p q", "\"\"", strings.Repeat("#", 512)}
	all := slices.Concat(rightLines, rightLines, rightLines, next, next, wrong, []string{"", "", "#", " # x"})
	r := rand.New(rand.NewSource(42))
	told := map[api.Errno]int{}
	for range 60000 {
		some := make([]string, r.Intn(9))
		for i := range some {
			some[i] = all[r.Intn(len(all))]
		}
		src := strings.Join(some, "\n")
		got, want := ask(src), model(src)
		if !alike(got, want) {
			t.Fatalf("%q: %v; not %v", src, got, want)
		}
		if got.fault != (api.Fault{}) && !(reflect.ValueOf(got.table).IsZero() && reflect.ValueOf(got.where).IsZero()) {
			t.Fatalf("%q: beside a fault %v, %v", src, got.table, got.where)
		}
		mayBe(t, got.table)
		told[got.fault.Err]++
	}
	for _, why := range []api.Errno{api.OK, api.ErrNumber, api.ErrRange, api.ErrWord, api.ErrShort, api.ErrMore, api.ErrByte, api.ErrQuote, api.ErrLong, api.ErrName, api.ErrLoop, api.ErrOpen} {
		if told[why] == 0 {
			t.Errorf("error %d is never told", why)
		}
	}
}
