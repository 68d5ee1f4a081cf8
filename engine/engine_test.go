package engine_test

import (
	"fmt"
	"math"
	"math/rand"
	"reflect"
	"slices"
	"strconv"
	"strings"
	"testing"

	"noontide/api"
	"noontide/change"
	"noontide/engine"
	"noontide/info"
	"noontide/load"
	"noontide/local"
	"noontide/policy"
	"noontide/query"
	"noontide/render"
	"noontide/sample"
	"noontide/stamp"
	"noontide/window"
	"noontide/zoned"
)

const (
	minT     = -1096193779200
	maxT     = 971890963199
	mostKept = 65536
	east     = "Rule US 2007 max - Mar Sun>=8 2:00 1:00 D\nRule US 2007 max - Nov Sun>=1 2:00 0 S\n"
	two      = east + "Zone A 1:00 - X 1950\n 2:00 - Y\nZone E -5:00 US E%sT\nLink E New/York\nLink New/York B\n"
)

func made(t *testing.T, src string, room int) *engine.Engine {
	t.Helper()
	e, fault := engine.New(src, room)
	if e == nil || fault != (api.Fault{}) {
		t.Fatalf("New of %q, %d: %v, %v", src, room, e, fault)
	}
	return e
}

// names are all names of a table that lead to a zone, and to which.
func names(table api.Table) map[string]int {
	places := map[string]int{}
	for place, z := range table.Zones {
		places[z.Name] = place
	}
	for range table.Links {
		for _, l := range table.Links {
			if place, is := places[l.Target]; is {
				places[l.Name] = place
			}
		}
	}
	return places
}

func errorText(why api.Errno) string {
	return "error " + strconv.Itoa(int(why))
}

func infoText(i api.Info) string {
	abbr := i.Value.Abbr
	if abbr == "" {
		abbr = `""`
	}
	return fmt.Sprintf("%d %d %d %d %s", i.Span.From, i.Span.To, i.Value.Off, i.Value.Save, abbr)
}

func localText(x api.Local) string {
	switch x.Kind {
	case api.LocalOne:
		return "one " + infoText(x.First)
	case api.LocalNone:
		return "none " + infoText(x.First) + " / " + infoText(x.Second)
	}
	return "two " + infoText(x.First) + " / " + infoText(x.Second)
}

func secondText(at int64) string {
	s, why := stamp.Of(at)
	if why != api.OK {
		return strconv.FormatInt(at, 10)
	}
	return strconv.FormatInt(at, 10) + " " + stamp.Text(s)
}

// changes are how many a zone has in some years.
func changes(table api.Table, zone int, q api.Query) (int, api.Errno) {
	years, why := window.Years(int(q.T), int(q.N))
	if why != api.OK {
		return 0, why
	}
	n := 0
	for c, ok := change.Next(table, zone, max(years.From-1, minT)); ok && c < years.To; c, ok = change.Next(table, zone, c) {
		n++
	}
	return n, api.OK
}

// told is the answer to a question, by the words.
func told(table api.Table, q api.Query) string {
	places := names(table)
	switch {
	case !query.Right(q):
		return errorText(api.ErrForm)
	case q.Kind == api.AskNone:
		return ""
	case q.Kind == api.AskNames:
		text := "names"
		var l []string
		for name := range places {
			l = append(l, name)
		}
		slices.Sort(l)
		for _, name := range l {
			text += " " + name
		}
		return text
	}
	zone, is := places[q.Zone]
	if !is {
		return errorText(api.ErrNone)
	}
	text, why := ofZone(table, zone, q)
	if why != api.OK {
		return errorText(why)
	}
	return text
}

func ofZone(table api.Table, zone int, q api.Query) (string, api.Errno) {
	switch q.Kind {
	case api.AskSys:
		i, why := info.At(table, zone, q.T)
		return infoText(i), why
	case api.AskLocal:
		x, why := local.Of(table, zone, q.T)
		return localText(x), why
	case api.AskTo:
		at, why := policy.To(table, zone, q.T, q.Policy)
		return secondText(at), why
	case api.AskAt:
		return zoned.Text(table, zone, q.T)
	case api.AskAdd:
		at, why := zoned.Add(table, zone, q.T, q.N, q.Unit, q.Policy)
		return secondText(at), why
	}
	n, why := changes(table, zone, q)
	return strconv.Itoa(n), why
}

func one[T any](random *rand.Rand, l ...T) T {
	return l[random.Intn(len(l))]
}

// linked is a table that fits, with some links, in any order.
func linked(random *rand.Rand) api.Table {
	table := sample.Table(random.Intn)
	targets := []string{}
	for _, z := range table.Zones {
		targets = append(targets, z.Name)
	}
	for n := range random.Intn(5) {
		name := "L/" + strconv.Itoa(n)
		table.Links = append(table.Links, api.Link{Target: one(random, targets...), Name: name})
		targets = append(targets, name)
	}
	random.Shuffle(len(table.Links), func(a, b int) { table.Links[a], table.Links[b] = table.Links[b], table.Links[a] })
	return table
}

func source(t *testing.T, table api.Table) string {
	t.Helper()
	src, why := render.Text(table)
	if why != api.OK {
		t.Fatal(table, why)
	}
	return src
}

// someTimes are seconds, and local times, at and around which something changes, and far ones.
func someTimes(random *rand.Rand, table api.Table) []int64 {
	times := append(sample.Far(), minT+2*86400, maxT-2*86400)
	for zone := range table.Zones {
		l, _ := window.In(table, zone, api.Span{From: minT, To: maxT + 1}, 20)
		for _, i := range l {
			shown := i.Span.From + i.Value.Off
			times = append(times, i.Span.From-1, i.Span.From, i.Span.From+random.Int63n(i.Span.To-i.Span.From), shown-1, shown, shown+random.Int63n(7200)-3600)
		}
	}
	return times
}

// anyQuestion is most often a right one.
func anyQuestion(random *rand.Rand, zones []string, times []int64) api.Query {
	q := api.Query{Kind: one(random, 1, 2, 3, 4, 5, 1, 2, 3, 4, 5, 6, 7, 0), T: one(random, times...)}
	q.Zone = one(random, append(zones, "none", "Z")...)
	switch q.Kind {
	case api.AskNone, api.AskNames:
		q = api.Query{Kind: q.Kind}
	case api.AskTo:
		q.Policy = 1 + random.Intn(3)
	case api.AskAdd:
		q.N, q.Unit, q.Policy = one(random, 0, 1, -1, int64(random.Intn(5000)-2500), api.MaxAdd+1), 1+random.Intn(4), 1+random.Intn(3)
	case api.AskCount:
		q.T = int64(one(random, api.MinYear, -4, 1960, 1995, api.MaxYear-20) + random.Intn(20))
		q.N = min(q.T+int64(one(random, 0, 1, 5, 30, 3999, 4000)), api.MaxYear)
	}
	if random.Intn(20) == 0 {
		*one(random, &q.T, &q.N) = one(random, times...)
		*one(random, &q.Kind, &q.Unit, &q.Policy) = one(random, -1, 4, 5, 8, math.MinInt, math.MaxInt)
	}
	return q
}

func namesOf(table api.Table) []string {
	var l []string
	for name := range names(table) {
		l = append(l, name)
	}
	slices.Sort(l)
	return l
}

// compareKept asks whether all that is kept are infos, in order; and whether the one that was answered is among these.
func compareKept(t *testing.T, e *engine.Engine, table api.Table, q api.Query, text string) {
	t.Helper()
	for name, zone := range names(table) {
		kept := e.Kept(name)
		is := false
		for place, i := range kept {
			if want, why := info.At(table, zone, i.Span.From); i != want || why != api.OK {
				t.Fatalf("kept of %q in %v is %v; not %v", name, table, i, want)
			}
			if place > 0 && kept[place-1].Span.To > i.Span.From {
				t.Fatalf("kept of %q in %v are %v", name, table, kept)
			}
			is = is || infoText(i) == text
		}
		if q.Kind == api.AskSys && q.Zone == name && !strings.HasPrefix(text, "error") && !is {
			t.Fatalf("kept of %q in %v are %v; %q was answered", name, table, kept, text)
		}
	}
	if l := e.Kept("none"); len(l) > 0 {
		t.Fatalf("kept of none are %v", l)
	}
}

// Promises 46.2, 46.3 and 46.5: any tables that fit, asked for anything, in any order, with little room or much.
func TestAny(t *testing.T) {
	random := rand.New(rand.NewSource(46))
	many := map[string]int{}
	for range 400 {
		table := linked(random)
		e := made(t, source(t, table), one(random, 1, 2, 3, 7, mostKept))
		times, zones := someTimes(random, table), namesOf(table)
		for range 60 {
			q := anyQuestion(random, zones, times)
			want := told(table, q)
			text := e.Ask(q)
			if text != want {
				t.Fatalf("Ask of %v in %v: %q; not %q", q, table, text, want)
			}
			compareKept(t, e, table, q, text)
			word, _, _ := strings.Cut(want, " ")
			if word == "error" {
				word = want
			}
			many[word]++
			many["kind "+strconv.Itoa(q.Kind)]++
		}
		if !reflect.DeepEqual(e.Table(), table) {
			t.Fatalf("Table of %v: %v", table, e.Table())
		}
	}
	for _, what := range []string{"one", "none", "two", "names", "error 1", "error 4", "error 12", "error 19", "error 20", "kind 0", "kind 1", "kind 2", "kind 3", "kind 4", "kind 5", "kind 6", "kind 7"} {
		if many[what] < 30 {
			t.Errorf("%d of %s", many[what], what)
		}
	}
}

// anyLine is a question's line, or one that is wrong, or right in another way.
func anyLine(random *rand.Rand, zones []string, times []int64) string {
	line, _ := query.Text(anyQuestion(random, zones, times))
	switch random.Intn(6) {
	case 0:
		return strings.ToUpper(line[:min(1, len(line))]) + line[min(1, len(line)):] + " # more"
	case 1:
		return one(random, "", "x", "sys", "sys A", "to Z0 0", "to Z0 0 x", "sys \"", "sys Z0 0 0", "sys Z0 x", "sys 0 0", "count Z0 5 4", "count Z0 40000 5", "é", strings.Repeat("a", 512), "names names")
	}
	return line
}

// Promises 46.2 and 46.5: the same lines, one by one and all at once, to engines of other rooms, in another order.
func TestLines(t *testing.T) {
	random := rand.New(rand.NewSource(462))
	for range 150 {
		table := linked(random)
		times, zones := someTimes(random, table), namesOf(table)
		lines := make([]string, random.Intn(40))
		var want []string
		for i := range lines {
			lines[i] = anyLine(random, zones, times)
			q, why := query.Read(lines[i])
			want = append(want, told(table, q))
			if why != api.OK {
				want[i] = errorText(why)
			}
		}
		kept := slices.Clone(lines)
		small, great := made(t, source(t, table), 1), made(t, source(t, table), mostKept)
		for _, i := range random.Perm(len(lines)) {
			if text := small.Line(lines[i]); text != want[i] {
				t.Fatalf("Line of %q in %v: %q; not %q", lines[i], table, text, want[i])
			}
		}
		for _, most := range []int{math.MinInt, -1, 0, 1, len(lines) - 1, len(lines), len(lines) + 1, math.MaxInt} {
			some := want[:max(min(most, len(lines)), 0)]
			for _, e := range []*engine.Engine{small, great} {
				if l := e.Run(lines, most); !slices.Equal(l, some) {
					t.Fatalf("Run of %q, %d in %v: %q; not %q", lines, most, table, l, some)
				}
			}
		}
		if !slices.Equal(lines, kept) {
			t.Fatal("the lines are changed")
		}
	}
}

// Promise 46.6: a zone's answers are the same by each of its names.
func TestByAnyName(t *testing.T) {
	random := rand.New(rand.NewSource(466))
	for range 100 {
		table := linked(random)
		e := made(t, source(t, table), 1+random.Intn(9))
		times := someTimes(random, table)
		places := names(table)
		for range 20 {
			q := anyQuestion(random, namesOf(table), times)
			text := e.Ask(q)
			kept := e.Kept(q.Zone)
			for name, zone := range places {
				if place, is := places[q.Zone]; !is || place != zone {
					continue
				}
				other := q
				other.Zone = name
				if again := e.Ask(other); again != text {
					t.Fatalf("Ask of %v in %v: %q; by %q: %q", q, table, text, name, again)
				}
				if q.Kind == api.AskSys && !slices.Equal(e.Kept(name), kept) {
					t.Fatalf("kept of %q in %v: %v, of %q: %v", name, table, e.Kept(name), q.Zone, kept)
				}
			}
		}
	}
}

// Promise 46.1: rooms at, and beyond, the ends of those that may be; that is told ahead of what is wrong with the source.
func TestNew(t *testing.T) {
	wrong := map[string]api.Fault{
		"x": {Line: 1, Err: api.ErrWord}, "Zone A 1:00 - X\n\nLink C B\n": {Line: 3, Err: api.ErrNone}, "Zone A 1:00 - X 1950\n": {Line: 1, Err: api.ErrOpen},
		strings.Repeat("\n", api.MaxSource+1): {Err: api.ErrLong}, "\n\n\x00": {Line: 3, Err: api.ErrByte}, "Zone A 0 US X": {Line: 1, Err: api.ErrNone}, "Zone A 0 - X\nZone A 0 - Y": {Line: 2, Err: api.ErrTwice},
	}
	for src, fault := range wrong {
		if _, whyNot := load.Source(src); whyNot != fault {
			t.Errorf("the source %q has %v", src[:min(len(src), 30)], whyNot)
		}
		for _, room := range []int{1, mostKept} {
			if e, f := engine.New(src, room); e != nil || f != fault {
				t.Errorf("New of %q, %d: %v, %v; not %v", src[:min(len(src), 30)], room, e, f, fault)
			}
		}
	}
	for _, room := range []int{math.MinInt, -1, 0, mostKept + 1, math.MaxInt} {
		for _, src := range []string{"", "x", two} {
			if e, fault := engine.New(src, room); e != nil || fault != (api.Fault{Err: api.ErrRange}) {
				t.Errorf("New of %q, %d: %v, %v", src, room, e, fault)
			}
		}
	}
	for _, room := range []int{1, 2, mostKept - 1, mostKept} {
		if e := made(t, two, room); e.Line("sys B 1719792000") != "1710054000 1730613600 -14400 3600 EDT" {
			t.Error(e.Line("sys B 1719792000"))
		}
	}
}

// Promise 46.1: no more is kept than there is room for.
func TestRoom(t *testing.T) {
	e := made(t, two, 3)
	for year := range 50 {
		e.Line("sys E " + strconv.Itoa(1700000000+year*31556952))
		if l := e.Kept("E"); len(l) < 1 || len(l) > 3 {
			t.Fatal(l)
		}
	}
}

// Promise 46.1: a source in which all is short is one, though what is written of its table is longer than a source may be.
func TestLongTable(t *testing.T) {
	var src strings.Builder
	for n := 0; src.Len() < api.MaxSource-5000; n++ {
		src.WriteString("Z A" + strconv.Itoa(n) + " 1 - X 1\n")
		for year := 2; year < api.MaxEras; year++ {
			src.WriteString(strconv.Itoa(year%2) + " - X " + strconv.Itoa(year) + "\n")
		}
		src.WriteString("2 - X\n")
	}
	table, fault := load.Source(src.String())
	if fault != (api.Fault{}) || load.Table(table) != api.ErrLong {
		t.Fatal(fault, load.Table(table))
	}
	e := made(t, src.String(), 5)
	for _, q := range []api.Query{{Kind: api.AskSys, Zone: "A0"}, {Kind: api.AskAt, Zone: "A300", T: -60000000000}, {Kind: api.AskCount, Zone: "A7", T: 1, N: 300}} {
		if text, want := e.Ask(q), told(table, q); text != want || strings.HasPrefix(text, "error") {
			t.Errorf("Ask of %v: %q; not %q", q, text, want)
		}
	}
	if !reflect.DeepEqual(e.Table(), table) {
		t.Error("it is another table")
	}
}

// Promise 46.2: what is known.
func TestKnown(t *testing.T) {
	e := made(t, two, 4)
	tests := map[string]string{
		"": "", "# names": "", "names": "names A B E New/York", "n": "names A B E New/York",
		"sys A 0": "-631155600 971890963200 7200 0 Y", "sys A -631155601": "-1096193779200 -631155600 3600 0 X", "s B 2024-07-01T00:00:00": "1710054000 1730613600 -14400 3600 EDT",
		"sys A 971890963199": "-631155600 971890963200 7200 0 Y", "sys A 971890963200": "error 1", "sys A -1096193779201": "error 1", "sys C 971890963200": "error 12",
		"local E 2024-07-01T00:00:00":                    "one 1710054000 1730613600 -14400 3600 EDT",
		"local E 2024-03-10T02:30:00":                    "none 1699164000 1710054000 -18000 0 EST / 1710054000 1730613600 -14400 3600 EDT",
		"local E 2024-11-03T01:30:00":                    "two 1710054000 1730613600 -14400 3600 EDT / 1730613600 1741503600 -18000 0 EST",
		"local A 971890963199":                           "error 1",
		"to E 2024-03-10T02:30:00 early":                 "1710054000 2024-03-10T07:00:00",
		"to E 2024-03-10T02:30:00 late":                  "1710054000 2024-03-10T07:00:00",
		"to New/York 2024-03-10T02:30:00 reject":         "error 19",
		"to B 2024-11-03T01:30:00 early":                 "1730611800 2024-11-03T05:30:00",
		"to B 2024-11-03T01:30:00 late":                  "1730615400 2024-11-03T06:30:00",
		"to B 2024-11-03T01:30:00 reject":                "error 20",
		"to B -1096193779200 late":                       "error 1",
		"at A 0":                                         "1970-01-01T02:00:00 +02 Y",
		"at E 1710054000":                                "2024-03-10T03:00:00 -04 EDT",
		"at E -1096193779200":                            "-32768-12-31T19:00:00 -05 EST",
		"at E 971890963200":                              "error 1",
		"add E 0 1 days late":                            "86400 1970-01-02T00:00:00",
		"add E 2024-03-09T07:30:00 1 days early":         "1710054000 2024-03-10T07:00:00",
		"add E 2024-03-09T07:30:00 86400 secs reject":    "1710055800 2024-03-10T07:30:00",
		"add E 2024-03-09T07:30:00 1 days reject":        "error 19",
		"add E 2024-01-31T07:30:00 1 months reject":      "1709191800 2024-02-29T07:30:00",
		"add E 0 1 years reject":                         "31536000 1971-01-01T00:00:00",
		"add E 0 1125899906842625 secs reject":           "error 1",
		"add E 971890963200 1 secs reject":               "error 1",
		"count E 2008 2009":                              "4",
		"count E 2006 2006":                              "0",
		"count A 1949 1949":                              "1",
		"count A 1950 1950":                              "0",
		"count E 1 4000":                                 "3988",
		"count E 1 4001":                                 "error 1",
		"count E 28768 32767":                            "8000",
		"count E -32767 -28768":                          "0",
		"count C 1 9000":                                 "error 12",
		"count E 2 1":                                    "error 14",
		"count E -32768 1":                               "error 1",
		"x":                                              "error 3",
		"sys A":                                          "error 5",
		"names A":                                        "error 6",
		"sys \"A 0":                                      "error 8",
		"sys A x":                                        "error 2",
		"sys 7 0":                                        "error 10",
		"to A 2024-02-30T00:00:00 early":                 "error 1",
		"to A 2024-2-03T00:00:00 early":                  "error 4",
		"names\n":                                        "error 7",
		"names " + strings.Repeat(" ", api.MaxLine):      "error 9",
		"sys " + strings.Repeat("A", api.MaxName) + " 0": "error 12",
	}
	for line, want := range tests {
		if text := e.Line(line); text != want {
			t.Errorf("Line of %q: %q; not %q", line, text, want)
		}
	}
	for _, q := range []api.Query{{Kind: -1}, {Kind: 8}, {Kind: api.AskNone, T: 1}, {Kind: api.AskNames, Zone: "A"}, {Kind: api.AskSys, Zone: "A", N: 1}, {Kind: api.AskSys}, {Kind: api.AskTo, Zone: "C"}, {Kind: math.MaxInt}, {Kind: api.AskCount, Zone: "C", T: 40000}} {
		if text := e.Ask(q); text != "error 4" {
			t.Errorf("Ask of %v: %q", q, text)
		}
	}
	if text := e.Ask(api.Query{}); text != "" {
		t.Error(text)
	}
}

// Promise 46.2: of a source of nothing there are no names, and no zones.
func TestEmpty(t *testing.T) {
	e := made(t, "", 1)
	if l := e.Run([]string{"names", "sys A 0", ""}, 3); !slices.Equal(l, []string{"names", "error 12", ""}) {
		t.Error(l)
	}
	if table := e.Table(); len(table.Rules)+len(table.Zones)+len(table.Links) > 0 {
		t.Error(table)
	}
}

// Promise 46.4: what a nil one answers.
func TestNil(t *testing.T) {
	var e *engine.Engine
	lines := []string{"", "x", "names", "sys A 0"}
	for _, line := range lines {
		q, _ := query.Read(line)
		if e.Line(line) != "error 12" || e.Ask(q) != "error 12" || len(e.Kept(line)) > 0 {
			t.Error(e.Line(line), e.Ask(q), e.Kept(line))
		}
	}
	if text := e.Ask(api.Query{Kind: -1}); text != "error 12" {
		t.Error(text)
	}
	for most, want := range map[int]int{math.MinInt: 0, -1: 0, 0: 0, 1: 1, 3: 3, 4: 4, 5: 4, math.MaxInt: 4} {
		if l := e.Run(lines, most); len(l) != want || slices.ContainsFunc(l, func(s string) bool { return s != "error 12" }) {
			t.Errorf("Run for %d: %q", most, l)
		}
	}
	if l := e.Kept("A"); len(l) > 0 {
		t.Error(l)
	}
	if table := e.Table(); len(table.Rules)+len(table.Zones)+len(table.Links) > 0 {
		t.Error(table)
	}
}

// Rules: what was told is not what is kept; two engines share nothing.
func TestNothingShared(t *testing.T) {
	a, b := made(t, two, 5), made(t, two, 5)
	table := a.Table()
	table.Rules[0].Save, table.Zones[0].Name, table.Zones[0].Eras[1].Off, table.Links[0].Name = 0, "Z", 60, "Z"
	const line, want = "sys A 0", "-631155600 971890963200 7200 0 Y"
	if text := a.Line(line); text != want || !reflect.DeepEqual(a.Table(), b.Table()) {
		t.Error(text, a.Table())
	}
	a.Kept("A")[0] = api.Info{}
	if text := a.Line(line); text != want || len(a.Kept("A")) != 1 || len(b.Kept("A")) != 0 || len(a.Kept("E")) != 0 {
		t.Error(text, a.Kept("A"), b.Kept("A"))
	}
}

// The example.
func TestExample(t *testing.T) {
	e := made(t, "Zone A 1:00 - X", 1)
	if l := e.Run([]string{"sys A 0", "at A 0", "sys B 0"}, 3); !slices.Equal(l, []string{"-1096193779200 971890963200 3600 0 X", "1970-01-01T01:00:00 +01 X", "error 12"}) {
		t.Error(l)
	}
}
