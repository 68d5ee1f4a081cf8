package model_test

import (
	"fmt"
	"math"
	"math/rand"
	"reflect"
	"slices"
	"strconv"
	"strings"
	"testing"

	"noontide/api"
	"noontide/engine"
	"noontide/info"
	"noontide/load"
	"noontide/model"
	"noontide/query"
	"noontide/render"
	"noontide/sample"
)

const (
	minT = -1096193779200
	maxT = 971890963199
	two  = "Rule US 2007 max - Mar Sun>=8 2:00 1:00 D\nRule US 2007 max - Nov Sun>=1 2:00 0 S\nZone A 1:00 - X 1950\n 2:00 - Y\nZone E -5:00 US E%sT\nLink E New/York\nLink New/York B\n"
)

// wrong are sources that are not taken, and why.
func wrong() map[string]api.Fault {
	return map[string]api.Fault{
		"x": {Line: 1, Err: api.ErrWord}, two + "Link C D": {Line: 8, Err: api.ErrNone}, "Zone A 0 - X 1950": {Line: 1, Err: api.ErrOpen}, strings.Repeat("\n", api.MaxSource+1): {Err: api.ErrLong},
	}
}

func one[T any](random *rand.Rand, l ...T) T {
	return l[random.Intn(len(l))]
}

// linked is a table that fits, with links to its zones.
func linked(random *rand.Rand) api.Table {
	table := sample.Table(random.Intn)
	for n := range random.Intn(3) {
		table.Links = append(table.Links, api.Link{Target: one(random, table.Zones...).Name, Name: "L" + strconv.Itoa(n)})
	}
	return table
}

func source(t *testing.T, table api.Table) string {
	t.Helper()
	src, why := render.Text(table)
	if why != api.OK {
		t.Fatal(table, why)
	}
	return src
}

// someTimes are seconds, and local times, at and around which something changes, and far ones.
func someTimes(random *rand.Rand, table api.Table) []int64 {
	times := sample.Far()
	for zone := range table.Zones {
		for _, i := range sample.Infos(table, zone) {
			shown := i.Span.From + i.Value.Off
			times = append(times, i.Span.From-1, i.Span.From, shown-1, shown, shown+random.Int63n(7200)-3600)
		}
	}
	return times
}

// anyQuestion is most often a right one.
func anyQuestion(random *rand.Rand, times []int64) api.Query {
	q := api.Query{Kind: random.Intn(8), Zone: one(random, "Z0", "Z0", "Z1", "L0", "L1", "none"), T: one(random, times...)}
	switch q.Kind {
	case api.AskNone, api.AskNames:
		return api.Query{Kind: q.Kind}
	case api.AskTo:
		q.Policy = 1 + random.Intn(3)
	case api.AskAdd:
		q.N, q.Unit, q.Policy = int64(random.Intn(2000)-1000), 1+random.Intn(4), 1+random.Intn(3)
	case api.AskCount:
		q.T = int64(one(random, api.MinYear, -4, 1968, 2000, api.MaxYear-9))
		q.N = min(q.T+int64(one(random, 0, 3, 9, 3999, 4000)), api.MaxYear)
	}
	if random.Intn(15) == 0 {
		*one(random, &q.Kind, &q.Unit, &q.Policy) = random.Intn(10) - 1
	}
	return q
}

func anyLine(random *rand.Rand, times []int64) string {
	if random.Intn(8) == 0 {
		return one(random, "x", "sys", "sys \"", "names 5", "sys Z0 x", "count Z0 5 4", "# nothing", "é")
	}
	line, _ := query.Text(anyQuestion(random, times))
	return line
}

func made(t *testing.T, src string, room int) *engine.Engine {
	t.Helper()
	e, fault := engine.New(src, room)
	if e == nil || fault != (api.Fault{}) {
		t.Fatal(src, fault)
	}
	return e
}

// Promises 47.1 and 47.4: any tables that fit, any questions; an engine, whatever it was asked ahead of each, says the same.
func TestAny(t *testing.T) {
	random := rand.New(rand.NewSource(47))
	for range 300 {
		table := linked(random)
		again := source(t, table)
		e := made(t, again, one(random, 1, 2, 5, 100))
		times := someTimes(random, table)
		for range 30 {
			q := anyQuestion(random, times)
			if text, want := model.Ask(table, q), e.Ask(q); text != want {
				t.Fatalf("Ask of %v in %v: %q; an engine answers %q", q, table, text, want)
			}
		}
		if source(t, table) != again {
			t.Fatal("the table is changed")
		}
	}
}

// Promises 47.1, 47.2 and 47.4: any lines; what an engine answers is not wrong; what is changed, is not there, or is too much, is found.
func TestRunAndWrong(t *testing.T) {
	random := rand.New(rand.NewSource(472))
	for range 150 {
		table := linked(random)
		src := source(t, table)
		times := someTimes(random, table)
		lines := make([]string, random.Intn(20))
		for i := range lines {
			lines[i] = anyLine(random, times)
		}
		e := made(t, src, 1+random.Intn(5))
		for range 5 {
			e.Line(anyLine(random, times))
		}
		want := e.Run(lines, len(lines))
		for _, most := range []int{math.MinInt, -1, 0, 1, len(lines) - 1, len(lines), len(lines) + 1, math.MaxInt} {
			l, fault := model.Run(src, lines, most)
			if !slices.Equal(l, want[:max(min(most, len(lines)), 0)]) || fault != (api.Fault{}) {
				t.Fatalf("Run of %q, %d in %v: %q, %v; not %q", lines, most, table, l, fault, want)
			}
		}
		compareWrong(t, src, lines, want, -1)
		compareWrong(t, src, lines, append(slices.Clone(want), ""), len(lines))
		compareWrong(t, src, lines, append(slices.Clone(want), "x", "y"), len(lines))
		for at := range lines {
			other := slices.Clone(want)
			other[at] += " "
			compareWrong(t, src, lines, other, at)
			compareWrong(t, src, lines, append(other, "x"), at)
			other[len(other)-1] += "x"
			compareWrong(t, src, lines, other, at)
			compareWrong(t, src, lines, want[:at], at)
		}
	}
}

func compareWrong(t *testing.T, src string, lines, answers []string, want int) {
	t.Helper()
	kept, given := slices.Clone(lines), slices.Clone(answers)
	if at, fault := model.Wrong(src, lines, answers); at != want || fault != (api.Fault{}) {
		t.Fatalf("Wrong of %q, %q: %d, %v; not %d", lines, answers, at, fault, want)
	}
	if !slices.Equal(lines, kept) || !slices.Equal(answers, given) {
		t.Fatal("what was handed in is changed")
	}
}

// Promises 47.1 and 47.2: of a source that is not taken, its fault is told, whatever is asked.
func TestFaults(t *testing.T) {
	for src, want := range wrong() {
		for _, lines := range [][]string{nil, {"names"}, {"x", "sys A 0"}} {
			for _, most := range []int{-1, 0, 1, 5} {
				if l, fault := model.Run(src, lines, most); len(l) > 0 || fault != want {
					t.Errorf("Run of %q, %d: %q, %v; not %v", lines, most, l, fault, want)
				}
			}
			for _, answers := range [][]string{nil, {"names"}, {"error 3", "x", "x"}} {
				if at, fault := model.Wrong(src, lines, answers); at != -1 || fault != want {
					t.Errorf("Wrong of %q: %d, %v; not %v", lines, at, fault, want)
				}
			}
		}
	}
}

// Promise 47.2: there is nothing wrong with nothing.
func TestNothingWrong(t *testing.T) {
	compareWrong(t, "", nil, nil, -1)
	compareWrong(t, "", nil, []string{""}, 0)
	compareWrong(t, "", []string{""}, []string{""}, -1)
	compareWrong(t, "", []string{""}, nil, 0)
	compareWrong(t, "", []string{"", "names"}, []string{"", "names"}, -1)
	compareWrong(t, "", []string{"", "names"}, []string{"", "names", "x"}, 2)
	compareWrong(t, "", []string{"", "names"}, []string{"", "x", "x"}, 1)
}

// known are lines, and their answers.
func known() [][2]string {
	return [][2]string{
		{"", ""}, {"names", "names A B E New/York"}, {"sys A 0", "-631155600 971890963200 7200 0 Y"}, {"sys B 2024-07-01T00:00:00", "1710054000 1730613600 -14400 3600 EDT"},
		{"sys A 971890963200", "error 1"}, {"sys C 0", "error 12"}, {"x", "error 3"}, {"names A", "error 6"}, {"sys \"A 0", "error 8"},
		{"local E 2024-07-01T00:00:00", "one 1710054000 1730613600 -14400 3600 EDT"},
		{"local E 2024-03-10T02:30:00", "none 1699164000 1710054000 -18000 0 EST / 1710054000 1730613600 -14400 3600 EDT"},
		{"local E 2024-11-03T01:30:00", "two 1710054000 1730613600 -14400 3600 EDT / 1730613600 1741503600 -18000 0 EST"},
		{"to E 2024-03-10T02:30:00 early", "1710054000 2024-03-10T07:00:00"}, {"to E 2024-03-10T02:30:00 reject", "error 19"}, {"to E 2024-11-03T01:30:00 late", "1730615400 2024-11-03T06:30:00"},
		{"at E 1710054000", "2024-03-10T03:00:00 -04 EDT"}, {"at E 971890963200", "error 1"},
		{"add E 2024-03-09T07:30:00 1 days early", "1710054000 2024-03-10T07:00:00"}, {"add E 2024-03-09T07:30:00 86400 secs early", "1710055800 2024-03-10T07:30:00"}, {"add E 971890963200 0 secs late", "error 1"},
		{"count E 2008 2009", "4"}, {"count A 1949 1949", "1"}, {"count E 1 4001", "error 1"}, {"count E 28768 32767", "8000"},
	}
}

// Promise 47.1: what is known.
func TestKnown(t *testing.T) {
	table, fault := load.Source(two)
	if fault != (api.Fault{}) {
		t.Fatal(fault)
	}
	var lines, answers []string
	for _, x := range known() {
		lines, answers = append(lines, x[0]), append(answers, x[1])
		if q, why := query.Read(x[0]); why == api.OK && model.Ask(table, q) != x[1] {
			t.Errorf("Ask of %q: %q; not %q", x[0], model.Ask(table, q), x[1])
		}
	}
	if l, fault := model.Run(two, lines, 1000); !slices.Equal(l, answers) || fault != (api.Fault{}) {
		t.Errorf("Run: %q, %v; not %q", l, fault, answers)
	}
	for _, q := range []api.Query{{Kind: -1}, {Kind: 8}, {T: 1}, {Kind: api.AskSys, Zone: "C", Unit: 1}} {
		if text := model.Ask(table, q); text != "error 4" {
			t.Errorf("Ask of %v: %q", q, text)
		}
	}
}

// Promise 47.1: a source in which all is short is one, though what is written of its table is longer than a source may be.
func TestLongTable(t *testing.T) {
	var src strings.Builder
	for n := 0; src.Len() < api.MaxSource-5000; n++ {
		src.WriteString("Z A" + strconv.Itoa(n) + " 1 - X 1\n")
		for year := 2; year < api.MaxEras; year++ {
			src.WriteString("1 - X " + strconv.Itoa(year) + "\n")
		}
		src.WriteString("2 - X\n")
	}
	table, _ := load.Source(src.String())
	if why := load.Table(table); why != api.ErrLong {
		t.Fatal(why)
	}
	lines := []string{"sys A0 0", "count A9 1 900"}
	l, fault := model.Run(src.String(), lines, 2)
	if fault != (api.Fault{}) || !slices.Equal(l, made(t, src.String(), 1).Run(lines, 2)) || l[0] != "-54120186000 971890963200 7200 0 X" || l[1] != "1" {
		t.Error(l, fault)
	}
}

func infoText(i api.Info) string {
	return fmt.Sprintf("%d %d %d %d %s", i.Span.From, i.Span.To, i.Value.Off, i.Value.Save, i.Value.Abbr)
}

func compareEnds(t *testing.T, table api.Table, zone int, at int64, want string, whyNot api.Errno) {
	t.Helper()
	if text, why := model.Ends(table, zone, at); text != want || why != whyNot {
		t.Fatalf("Ends of %d in %v at %d: %q, %d; not %q, %d", zone, table, at, text, why, want, whyNot)
	}
}

// Promise 47.3: any tables that fit, at the first and the last second of each info, and between; zones and seconds that may not be.
func TestEnds(t *testing.T) {
	random := rand.New(rand.NewSource(473))
	for range 300 {
		table := sample.Table(random.Intn)
		for zone := range table.Zones {
			l := sample.Infos(table, zone)
			texts := []string{"-"}
			for _, i := range l {
				text := infoText(i)
				if i.Value.Abbr == "" {
					text += `""`
				}
				texts = append(texts, text)
			}
			texts = append(texts, "-")
			for n, i := range l {
				want := texts[n+1] + " / " + texts[n] + " / " + texts[n+2]
				for _, at := range []int64{i.Span.From, i.Span.From + random.Int63n(i.Span.To-i.Span.From), i.Span.To - 1} {
					compareEnds(t, table, zone, at, want, api.OK)
				}
			}
			for _, at := range []int64{math.MinInt64, minT - 1, maxT + 1, math.MaxInt64} {
				compareEnds(t, table, zone, at, "", api.ErrRange)
				compareEnds(t, table, len(table.Zones), at, "", api.ErrNone)
			}
		}
		for _, zone := range []int{math.MinInt, -1, len(table.Zones), math.MaxInt} {
			compareEnds(t, table, zone, 0, "", api.ErrNone)
		}
	}
}

// Promise 47.3: what can't be written is told, be it the info, the one ahead, or the one behind. (A table that fits has nothing of the kind.)
func TestEndsQuote(t *testing.T) {
	rules := []api.Rule{
		{Name: "A", From: 2000, To: 2000, Month: 1, On: api.On{Day: 1}, At: api.At{Base: api.AtUtc}, Save: 3600, Letter: "D"},
		{Name: "A", From: 2001, To: 2001, Month: 1, On: api.On{Day: 1}, At: api.At{Base: api.AtUtc}, Letter: `"`},
		{Name: "A", From: 2002, To: 2002, Month: 1, On: api.On{Day: 1}, At: api.At{Base: api.AtUtc}, Save: 3600, Letter: "D"},
	}
	table := api.Table{Rules: rules, Zones: []api.Zone{{Name: "Z", Eras: []api.Era{{Kind: api.RulesNamed, Rules: "A", Format: "E%sT"}}}}}
	quotes := 0
	for _, i := range sample.Infos(table, 0) {
		text, why := model.Ends(table, 0, i.Span.From)
		ahead, _ := info.Ahead(table, 0, i)
		behind, _ := info.Behind(table, 0, i)
		if !strings.Contains(i.Value.Abbr+ahead.Value.Abbr+behind.Value.Abbr, `"`) {
			continue
		}
		quotes++
		if text != "" || why != api.ErrQuote {
			t.Errorf("Ends at %v: %q, %d", i, text, why)
		}
	}
	if quotes < 2 {
		t.Error(quotes)
	}
	if text := model.Ask(table, api.Query{Kind: api.AskSys, Zone: "Z"}); text != "error 8" {
		t.Errorf("Ask: %q", text)
	}
}

// unfitAnswer is what is answered though a table does not fit, since no zone is looked at.
func unfitAnswer(q api.Query) (string, bool) {
	switch {
	case !query.Right(q):
		return "error 4", true
	case q.Kind == api.AskNone:
		return "", true
	case q.Kind == api.AskNames:
		return "error 8", true
	case q.Zone == "L0":
		return "error 13", true
	}
	return "", false
}

// Of a table that does not fit there is an answer, whatever it is; but beside an error there is nothing.
func TestTablesThatDoNotFit(t *testing.T) {
	random := rand.New(rand.NewSource(474))
	for _, table := range sample.Unfit() {
		table.Zones[0].Name = "Z0"
		table.Links = []api.Link{{Target: "L1", Name: "L0"}, {Target: "L0", Name: "L1"}, {Target: "Z0", Name: `"`}}
		for range 40 {
			q := anyQuestion(random, append(sample.Far(), -631152000, 1893456000))
			text := model.Ask(table, q)
			want, is := unfitAnswer(q)
			if is && text != want {
				t.Errorf("Ask of %v in %v: %q; not %q", q, table, text, want)
			}
		}
		for _, at := range append(sample.Far(), -631152000, 1893456000) {
			if text, why := model.Ends(table, 0, at); (text == "") != (why != api.OK) {
				t.Errorf("Ends of %v at %d: %q, %d", table, at, text, why)
			}
		}
	}
}

// Rules: what is handed in is not changed.
func TestNothingChanged(t *testing.T) {
	table, again := sample.Two(), sample.Two()
	for _, x := range known() {
		q, _ := query.Read(x[0])
		model.Ask(table, q)
	}
	model.Ends(table, 1, 0)
	if !reflect.DeepEqual(table, again) {
		t.Error(table)
	}
}

// The example.
func TestExample(t *testing.T) {
	table, _ := load.Source("Zone A 1:00 - X")
	compareEnds(t, table, 0, 0, "-1096193779200 971890963200 3600 0 X / - / -", api.OK)
}
