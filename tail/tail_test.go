package tail_test

import (
	"bytes"
	"encoding/binary"
	"math"
	"math/rand"
	"reflect"
	"slices"
	"strings"
	"testing"
	"time"

	"noontide/apart"
	"noontide/api"
	"noontide/change"
	"noontide/force"
	"noontide/format"
	"noontide/load"
	"noontide/num"
	"noontide/point"
	"noontide/posix"
	"noontide/sample"
	"noontide/tail"
	"noontide/until"
)

const (
	hour = 3600
	minT = -1096193779200
	maxT = 971890963199
	far  = 32767
)

// coast is what holds for good in a place.
func coast() api.Posix {
	return api.Posix{
		Std: "EST", Off: -5 * hour, Dst: "EDT", Save: hour,
		From: api.PosixDay{Month: 3, Week: 2, Sec: 7200}, To: api.PosixDay{Month: 11, Week: 1, Sec: 7200},
	}
}

func one[T any](random *rand.Rand, l ...T) T {
	return l[random.Intn(len(l))]
}

func anyName(random *rand.Rand) string {
	return one(random, "ABC", "XYZ", "abcdef", "-03", "+0530", "a1B2")
}

func anyDay(random *rand.Rand) api.PosixDay {
	return api.PosixDay{Month: 1 + random.Intn(12), Week: 1 + random.Intn(5), Day: random.Intn(7), Sec: one(random, 0, 7200, 172800, random.Int63n(172801))}
}

// rightPosix may be; in most something is saved.
func rightPosix(random *rand.Rand) api.Posix {
	for {
		p := api.Posix{Std: anyName(random), Off: one(random, 0, 54000, -54000, random.Int63n(108001)-54000)}
		if random.Intn(5) > 0 {
			p.Dst, p.From, p.To = anyName(random), anyDay(random), anyDay(random)
			p.Save = one[int64](random, hour, -hour, 1, -10800, 10800)
		}
		if posix.Right(p) {
			return p
		}
	}
}

// wrongPosix are some that may not be.
func wrongPosix() []api.Posix {
	short, beyond, near, noDst := coast(), coast(), coast(), coast()
	short.Dst, beyond.Off, near.To, noDst.Dst = "ED", 54001, near.From, ""
	return []api.Posix{{}, short, beyond, near, noDst, {Std: "ES"}, {Std: "EST", Off: math.MinInt64}, {Std: "EST", Dst: "EDT", Save: math.MaxInt64}}
}

// alone is a table of what has these rules and this era.
func alone(rules []api.Rule, e api.Era) api.Table {
	return api.Table{Rules: rules, Zones: []api.Zone{{Name: "Z", Eras: []api.Era{e}}}}
}

// ruleOf is the rule of a day, by the words.
func ruleOf(d api.PosixDay, save int64) api.Rule {
	on := api.On{Kind: api.OnLast, Week: d.Day}
	if d.Week < 5 {
		on = api.On{Kind: api.OnFrom, Week: d.Day, Day: 7*d.Week - 6}
	}
	return api.Rule{Name: "P", From: -far, To: far, Month: d.Month, On: on, At: api.At{Sec: d.Sec}, Save: save}
}

// Promise 50.1: the rules and the era, of any that may be, and of some that may not.
func TestRules(t *testing.T) {
	random := rand.New(rand.NewSource(501))
	for range 20000 {
		p := rightPosix(random)
		var want []api.Rule
		wantEra := api.Era{Off: p.Off, Format: p.Std}
		if p.Dst != "" {
			want = []api.Rule{ruleOf(p.From, p.Save), ruleOf(p.To, 0)}
			wantEra = api.Era{Off: p.Off, Kind: api.RulesNamed, Rules: "P", Format: p.Std + "/" + p.Dst}
		}
		rules, e, why := tail.Rules(p)
		if !slices.Equal(rules, want) || e != wantEra || why != api.OK {
			t.Fatalf("of %+v: %+v, %+v, %d; not %+v, %+v", p, rules, e, why, want, wantEra)
		}
		if why := load.Table(alone(rules, e)); why != api.OK {
			t.Fatalf("of %+v: %+v and %+v do not fit: %d", p, rules, e, why)
		}
	}
	for _, p := range wrongPosix() {
		if rules, e, why := tail.Rules(p); len(rules) > 0 || e != (api.Era{}) || why != api.ErrForm {
			t.Errorf("of %+v: %+v, %+v, %d", p, rules, e, why)
		}
	}
}

// Promise 50.1: rules are new each time.
func TestRulesNew(t *testing.T) {
	rules, _, _ := tail.Rules(coast())
	want := slices.Clone(rules)
	rules[0], rules[1] = api.Rule{}, api.Rule{}
	if again, _, _ := tail.Rules(coast()); !slices.Equal(again, want) {
		t.Errorf("they are %+v", again)
	}
}

// Promise 50.1: what holds, at known seconds, and at any, those at both ends and beyond among them.
func TestValue(t *testing.T) {
	est, edt := api.Value{Off: -5 * hour, Abbr: "EST"}, api.Value{Off: -4 * hour, Save: hour, Abbr: "EDT"}
	known := []struct {
		at   int64
		want api.Value
	}{
		{1719792000, edt}, {1710053999, est}, {1710054000, edt}, {1730613599, edt}, {1730613600, est}, {minT, est}, {maxT, est}, {minT + 200*86400, edt},
	}
	for _, test := range known {
		if v, why := tail.Value(coast(), test.at); v != test.want || why != api.OK {
			t.Errorf("at %d: %+v, %d", test.at, v, why)
		}
	}
	random := rand.New(rand.NewSource(502))
	for range 3000 {
		p := rightPosix(random)
		rules, e, _ := tail.Rules(p)
		for _, at := range append(sample.Far(), random.Int63n(maxT), -random.Int63n(-minT)) {
			want, whyNot := force.At(rules, e, at)
			if at < minT || at > maxT {
				want, whyNot = api.Value{}, api.ErrRange
			}
			if v, why := tail.Value(p, at); v != want || why != whyNot {
				t.Fatalf("of %+v at %d: %+v, %d; not %+v, %d", p, at, v, why, want, whyNot)
			}
		}
	}
	for _, p := range wrongPosix() {
		for _, at := range sample.Far() {
			if v, why := tail.Value(p, at); v != (api.Value{}) || why != api.ErrForm {
				t.Errorf("of %+v at %d: %+v, %d", p, at, v, why)
			}
		}
	}
}

// place is what Go's own library makes of a text of what holds for good.
func place(t *testing.T, text string) *time.Location {
	t.Helper()
	var data bytes.Buffer
	for range 2 {
		data.WriteString("TZif2" + strings.Repeat("\x00", 15))
		for _, many := range []uint32{0, 0, 0, 0, 1, 4} {
			binary.Write(&data, binary.BigEndian, many)
		}
		data.WriteString("\x00\x00\x00\x00\x00\x00LMT\x00")
	}
	data.WriteString("\n" + text + "\n")
	l, err := time.LoadLocationFromTZData("Z", data.Bytes())
	if err != nil {
		t.Fatal(err)
	}
	return l
}

// Promises 49.1 and 50.1: what holds is what Go's own library tells of the text, at any seconds of years to come, but near to the ends of these, where that library tells less.
func TestByGo(t *testing.T) {
	random := rand.New(rand.NewSource(503))
	saved := map[bool]int{}
	for range 2000 {
		p := rightPosix(random)
		if p.Dst != "" && (p.From.Month == 1 || p.From.Month == 12 || p.To.Month == 1 || p.To.Month == 12) {
			continue
		}
		text, _ := posix.Text(p)
		l := place(t, text)
		for range 200 {
			at := time.Date(1970+random.Intn(400), 1, 10+random.Intn(345), 0, 0, random.Intn(86400), 0, time.UTC).Unix()
			v, why := tail.Value(p, at)
			if name, off := time.Unix(at, 0).In(l).Zone(); name != v.Abbr || int64(off) != v.Off || why != api.OK {
				t.Fatalf("of %q at %d: %+v, %d; not %q, %d", text, at, v, why, name, off)
			}
			saved[v.Save != 0]++
		}
	}
	if saved[true] < 10000 || saved[false] < 10000 {
		t.Errorf("saved: %v", saved)
	}
}

const rules = `
Rule US 1967 2006 - Oct lastSun 2:00 0 S
Rule US 1967 2006 - Apr lastSun 2:00 1:00 D
Rule US 2007 max - Mar Sun>=8 2:00 1:00 D
Rule US 2007 max - Nov Sun>=1 2:00 0 S
Rule EU 1979 1995 - Sep lastSun 1:00u 0 -
Rule EU 1981 max - Mar lastSun 1:00u 1:00 S
Rule EU 1996 max - Oct lastSun 1:00u 0 -
Rule AN 2001 2007 - Oct lastSun 2:00s 1:00 D
Rule AN 2008 max - Apr Sun>=1 2:00s 0 S
Rule AN 2008 max - Oct Sun>=1 2:00s 1:00 D
Rule Eire 1981 max - Mar lastSun 1:00u 0 -
Rule Eire 1996 max - Oct lastSun 1:00u -1:00 -
Rule Chile 2019 max - Apr Sun>=2 3:00u 0 -
Rule Chile 2022 max - Sep Sun>=2 4:00u 1:00 -
Rule Zion 2013 max - Mar Fri>=22 26:00 1:00 D
Rule Zion 2013 max - Oct lastSun 2:00 0 S
Rule UpTo 1990 max - Mar Sun<=28 0:00 1:00 D
Rule UpTo 1990 max - Aug Fri<=7 0:00 0 S
Rule Day 1990 max - Mar 1 0:00 1:00 D
Rule Day 1990 max - Aug Fri>=8 0:00 0 S
Rule Fifth 1990 max - Mar Sun>=29 0:00 1:00 D
Rule Fifth 1990 max - Aug Fri>=8 0:00 0 S
Rule Sixth 1990 max - Mar Sun>=8 0:00 1:00 D
Rule Sixth 1990 max - Aug Fri<=29 0:00 0 S
Rule Past 1990 2010 - Mar 1 0:00 1:00 S
Rule Past 1990 2010 - Aug 1 0:00 0 W
Rule On 1990 max - Mar 1 0:00 1:00 S
Rule Off 1990 2000 - Mar 1 0:00 1:00 S
Rule Off 1992 max - Aug 1 0:00 0 W
Rule Both 1990 max - Mar lastSun 0:00 1:00 S
Rule Both 1990 max - Aug lastSun 0:00 2:00 W
Rule None 1990 max - Mar lastSun 0:00 0 S
Rule None 1990 max - Aug lastSun 0:00 0 W
Rule Three 1990 max - Mar lastSun 0:00 1:00 S
Rule Three 1990 max - Aug lastSun 0:00 0 W
Rule Three 2000 max - Nov lastSun 0:00 2:00 X
Rule Late 32766 max - Mar lastSun 0:00 1:00 S
Rule Late 1990 max - Aug lastSun 0:00 0 W
Rule Last 32765 max - Mar lastSun 0:00 1:00 S
Rule Last 1990 max - Aug lastSun 0:00 0 W
Rule End 32767 max - Aug lastSun 0:00 0 W
Rule End 1990 32766 - Aug lastSun 0:00 0 V
Rule Soon 1990 3000 - Mar 1 0:00 1:00 S
Rule Soon 1990 3001 - Aug 1 0:00 0 W
Rule Near 1990 max - Jun Sun>=8 24:00u 1:00 S
Rule Near 1990 max - Jun Sun>=22 48:00 0 W
`

// Promises 50.2 and 50.3: known zones, each of these rules.
func TestKnown(t *testing.T) {
	year := func(n int) int64 { return time.Date(n, 1, 1, 0, 0, 0, 0, time.UTC).Unix() }
	const form, none, beyond = api.ErrForm, api.ErrNone, api.ErrRange
	tests := []struct {
		eras     string
		text     string
		whyText  api.Errno
		since    int64
		whySince api.Errno
	}{
		{"-5:00 US E%sT", "EST5EDT,M3.2.0,M11.1.0", 0, year(2009), 0},
		{"1:00 EU CE%sT", "CET-1CEST,M3.5.0,M10.5.0/3", 0, year(1998), 0},
		{"0:00 EU GMT/BST", "GMT0BST,M3.5.0/1,M10.5.0", 0, year(1998), 0},
		{"-1:00 EU %z", "<-01>1<+00>,M3.5.0/0,M10.5.0/1", 0, year(1998), 0},
		{"-1:00:01 EU AAA", "", form, 0, form},
		{"-2:00 EU %z", "", form, 0, form},
		{"10:00 AN AE%sT", "AEST-10AEDT,M10.1.0,M4.1.0/3", 0, year(2010), 0},
		{"1:00 Eire IST/GMT", "IST-1GMT0,M10.5.0,M3.5.0/1", 0, year(1998), 0},
		{"-4:00 Chile %z", "", form, 0, form},
		{"2:00 Zion I%sT", "IST-2IDT,M3.4.5/26,M10.5.0", 0, year(2015), 0},
		{"3:00 UpTo E%sT", "EST-3EDT,M3.4.0/0,M8.1.5/0", 0, year(1992), 0},
		{"0:00 Day E%sT", "", form, 0, form},
		{"0:00 Fifth E%sT", "", form, 0, form},
		{"0:00 Sixth E%sT", "", form, 0, form},
		{"-3:30 Past A%sT", "AWT3:30", 0, year(2012), 0},
		{"-3:30 On A%sT", "AST2:30", 0, year(1992), 0},
		{"0:20 Off A%sT", "AWT-0:20", 0, year(2002), 0},
		{"0 Both A%sT", "", form, 0, form},
		{"0 None A%sT", "", form, 0, form},
		{"0 Three A%sT", "", form, 0, form},
		{"0 Late A%sT", "AWT0AST,M3.5.0/0,M8.5.0/0", 0, 0, beyond},
		{"0 Last A%sT", "AWT0AST,M3.5.0/0,M8.5.0/0", 0, year(32767), 0},
		{"0 End A%sT", "AWT0", 0, 0, beyond},
		{"0 Soon A%sT", "AWT0", 0, year(3003), 0},
		{"0 Near A%sT", "AWT0AST,M6.2.0/24,M6.4.0/48", 0, year(1992), 0},
		{"15:00 Near A%sT", "AWT-15AST,M6.2.0/39,M6.4.0/48", 0, year(1992), 0},
		{"-15:00 Near A%sT", "AWT15AST,M6.2.0/9,M6.4.0/48", 0, year(1992), 0},
		{"5:30 - +0530", "<+0530>-5:30", 0, year(-32765), 0},
		{"0 1:00 BST", "BST-1", 0, year(-32765), 0},
		{"15:00 - ABC", "ABC-15", 0, year(-32765), 0},
		{"15:00 0:00:01 ABC", "", form, 0, form},
		{"-15:00 -0:00:01 ABC", "", form, 0, form},
		{"-15:00 0:00:01 ABC", "ABC14:59:59", 0, year(-32765), 0},
		{"0 - AB", "", form, 0, form},
		{"0 - ABCDEFG", "", form, 0, form},
		{"0 EU E%sT", "", form, 0, form},
		{"0 EU ABCDE%sT", "", form, 0, form},
		{"1:00 - LMT 1950\n 1:00 - ABC", "ABC-1", 0, year(1951), 0},
		{"1:00 - LMT 1950 Jan 1 1:00\n 1:00 - ABC", "ABC-1", 0, year(1952), 0},
		{"-1:00 - LMT 1949 Dec 31 23:00\n 1:00 - ABC", "ABC-1", 0, year(1952), 0},
		{"-1:00 - LMT 1949 Dec 31 22:59:59\n 1:00 - ABC", "ABC-1", 0, year(1951), 0},
		{"1:00 - LMT 2020\n -5:00 US E%sT", "EST5EDT,M3.2.0,M11.1.0", 0, year(2021), 0},
		{"1:00 - LMT 1930\n 2:00 EU X 2030 Jan 1 2:00\n -5:00 US E%sT", "EST5EDT,M3.2.0,M11.1.0", 0, year(2032), 0},
		{"1:00 - LMT 2000\n -5:00 US E%sT", "EST5EDT,M3.2.0,M11.1.0", 0, year(2009), 0},
		{"1:00 EU LMT 2000\n 0 - ABC", "ABC0", 0, year(2001), 0},
		{"1:00 - LMT 32766\n 0 - ABC", "ABC0", 0, year(32767), 0},
		{"1:00 - LMT 32766 Jan 1 1:00\n 0 - ABC", "ABC0", 0, 0, beyond},
		{"1:00 - LMT -32766\n 0 - ABC", "ABC0", 0, year(-32765), 0},
	}
	for _, test := range tests {
		table, fault := load.Source(rules + "Zone A 0 - UTC\nZone Z " + test.eras + "\n")
		if fault.Err != api.OK {
			t.Errorf("%q: %v", test.eras, fault)
			continue
		}
		p, why := tail.Of(table, 1)
		if want, _ := posix.Read(test.text); test.whyText != api.OK && p != (api.Posix{}) || test.whyText == api.OK && p != want || why != test.whyText {
			t.Errorf("of %q: %+v, %d", test.eras, p, why)
		}
		if since, why := tail.Since(table, 1); since != test.since || why != test.whySince {
			t.Errorf("of %q: since %d, %d; not %d, %d", test.eras, since, why, test.since, test.whySince)
		}
		for _, zone := range []int{math.MinInt, -1, 2, math.MaxInt} {
			if p, why := tail.Of(table, zone); p != (api.Posix{}) || why != none {
				t.Errorf("of %d: %+v, %d", zone, p, why)
			}
			if since, why := tail.Since(table, zone); since != 0 || why != none {
				t.Errorf("of %d: %d, %d", zone, since, why)
			}
		}
	}
}

// anyRules are rules that fit of two names, some of which go on for good.
func anyRules(random *rand.Rand) []api.Rule {
	var l []api.Rule
	for range 1 + random.Intn(9) {
		r := sample.Rule(random.Intn, 1990+random.Intn(30))
		if random.Intn(2) == 0 {
			r.To = api.MaxYear
			r.At.Sec = one(random, 0, hour, 2*hour, 24*hour, random.Int63n(172801))
			r.Save = one[int64](random, 0, 0, hour, hour, -hour, 1800)
		}
		if random.Intn(40) == 0 {
			r.From = api.MaxYear - random.Intn(4)
			r.To = api.MaxYear - random.Intn(api.MaxYear-r.From+1)
		}
		if week := random.Intn(7); random.Intn(3) > 0 {
			r.On = one(random, api.On{Kind: api.OnLast, Week: week}, api.On{Kind: api.OnFrom, Week: week, Day: 1 + 7*random.Intn(4)}, api.On{Kind: api.OnUpTo, Week: week, Day: 7 + 7*random.Intn(4)})
		} else if random.Intn(3) > 0 {
			r.On = api.On{Kind: one(random, api.OnFrom, api.OnUpTo), Week: week, Day: 1 + random.Intn(30)}
		}
		r.Letter = one(random, "S", "D", "", "+x")
		if at, _ := apart.Check(append(l, r)); at < 0 {
			l = append(l, r)
		}
	}
	return l
}

func anyEra(random *rand.Rand, rules []api.Rule) api.Era {
	e := api.Era{
		Off:    one(random, 0, hour, -hour, 54000, -54000, hour*(random.Int63n(31)-15), random.Int63n(108001)-54000),
		Format: one(random, "ABC", "E%sT", "AB%s", "%z", "STD/DST", "GMT/BST", "X", "ABCDEFG"),
	}
	switch random.Intn(6) {
	case 0:
		e.Kind, e.Save = api.RulesFixed, one[int64](random, 0, hour, -hour)
	case 1, 2, 3, 4:
		e.Kind, e.Rules = api.RulesNamed, one(random, rules...).Name
	}
	return e
}

// anyTable is a table that fits, of zones of some eras.
func anyTable(random *rand.Rand) api.Table {
	for {
		table := api.Table{Rules: anyRules(random)}
		for _, name := range []string{"A", "B"} {
			z := api.Zone{Name: name, Eras: []api.Era{anyEra(random, table.Rules)}}
			for range random.Intn(3) {
				more := slices.Clone(z.Eras)
				more[len(more)-1].Until = api.Until{Has: true, Year: 1960 + random.Intn(80), Month: one(random, 1, 1, 12, 6), On: api.On{Day: one(random, 1, 31, 15)}, At: api.At{Sec: random.Int63n(172801), Base: random.Intn(3)}}
				more = append(more, anyEra(random, table.Rules))
				if at, _ := until.Check(table.Rules, api.Zone{Eras: more}); at < 0 {
					z.Eras = more
				}
			}
			table.Zones = append(table.Zones, z)
		}
		if load.Table(table) == api.OK {
			return table
		}
	}
}

// weekOf is the Week of a name of a day, by the words.
func weekOf(o api.On) int {
	switch o.Kind {
	case api.OnLast:
		return 5
	case api.OnFrom:
		return map[int]int{1: 1, 8: 2, 15: 3, 22: 4}[o.Day]
	case api.OnUpTo:
		return map[int]int{7: 1, 14: 2, 21: 3, 28: 4}[o.Day]
	}
	return 0
}

// dayOf is the day of a rule, by the words.
func dayOf(r api.Rule, off, saved int64) api.PosixDay {
	sec := r.At.Sec
	if r.At.Base != api.AtWall {
		sec += saved
	}
	if r.At.Base == api.AtUtc {
		sec += off
	}
	return api.PosixDay{Month: r.Month, Week: weekOf(r.On), Day: r.On.Week, Sec: sec}
}

// split are the rules of an era's name that last, and the others.
func split(table api.Table, e api.Era) (lasting, others []api.Rule) {
	for _, r := range table.Rules {
		switch {
		case e.Kind != api.RulesNamed || r.Name != e.Rules:
		case r.To == far:
			lasting = append(lasting, r)
		default:
			others = append(others, r)
		}
	}
	return lasting, others
}

// of is Of by the words, of a zone that there is.
func of(table api.Table, zone int) (api.Posix, api.Errno) {
	e := table.Zones[zone].Eras[len(table.Zones[zone].Eras)-1]
	l, _ := split(table, e)
	var p api.Posix
	switch {
	case len(l) < 2:
		v, _ := point.Value(table, zone, maxT)
		p = api.Posix{Std: v.Abbr, Off: v.Off}
	case len(l) == 2 && (l[0].Save == 0) != (l[1].Save == 0):
		from, to := l[0], l[1]
		if from.Save == 0 {
			from, to = l[1], l[0]
		}
		p.Off, p.Save = e.Off, from.Save
		p.Std, _ = format.Abbr(e.Format, e.Off, 0, to.Letter)
		p.Dst, _ = format.Abbr(e.Format, e.Off+from.Save, from.Save, from.Letter)
		p.From, p.To = dayOf(from, e.Off, 0), dayOf(to, e.Off, from.Save)
	}
	if !posix.Right(p) {
		return api.Posix{}, api.ErrForm
	}
	return p, api.OK
}

// since is Since by the words, of a zone that there is.
func since(table api.Table, zone int) (int64, api.Errno) {
	if _, why := of(table, zone); why != api.OK {
		return 0, why
	}
	years := []int{-far}
	eras := table.Zones[zone].Eras
	if ends, _ := until.Ends(table.Rules, table.Zones[zone]); len(ends) > 0 {
		years = append(years, time.Unix(ends[len(ends)-1], 0).UTC().Year())
	}
	lasting, others := split(table, eras[len(eras)-1])
	for _, r := range lasting {
		years = append(years, r.From)
	}
	for _, r := range others {
		years = append(years, r.To)
	}
	year := slices.Max(years) + 2
	if year > far {
		return 0, api.ErrRange
	}
	return time.Date(year, 1, 1, 0, 0, 0, 0, time.UTC).Unix(), api.OK
}

// compareGood asks, from a second on, whether the zone and what holds for good tell the same: at that, in the years behind it, around each change, at the end, and at any seconds.
func compareGood(t *testing.T, random *rand.Rand, table api.Table, zone int, p api.Posix, from int64) {
	t.Helper()
	times := []int64{from, from + 1, maxT, maxT - 1, maxT - random.Int63n(400*86400)}
	for range 20 {
		times = append(times, from+random.Int63n(maxT-from+1), from+random.Int63n(min(maxT-from+1, 4000*86400)))
	}
	rules, e, _ := tail.Rules(p)
	good := alone(rules, e)
	for _, start := range []int64{from, times[5], maxT - 500*86400} {
		a, b := start, start
		for range 9 {
			a, _ = change.Next(table, zone, a)
			b, _ = change.Next(good, 0, b)
			times = append(times, a-1, a, a+1, b-1, b, b+1)
		}
	}
	for _, at := range times {
		if at < from || at > maxT {
			continue
		}
		v, whyV := point.Value(table, zone, at)
		w, whyW := tail.Value(p, at)
		if v.Off != w.Off || v.Abbr != w.Abbr || whyV != api.OK || whyW != api.OK {
			t.Fatalf("of %+v, zone %d, at %d: %+v; but %+v, since %d, has %+v", table, zone, at, v, p, from, w)
		}
	}
}

// Promises 50.2, 50.3 and 50.4: any tables that fit.
func TestAny(t *testing.T) {
	random := rand.New(rand.NewSource(50))
	type kind struct {
		lasting  int
		saves    bool
		of, from api.Errno
	}
	many := map[kind]int{}
	for range 30000 {
		table := anyTable(random)
		for zone, z := range table.Zones {
			want, whyNot := of(table, zone)
			p, why := tail.Of(table, zone)
			if p != want || why != whyNot {
				t.Fatalf("of %+v, zone %d: %+v, %d; not %+v, %d", table, zone, p, why, want, whyNot)
			}
			wantFrom, whyNotFrom := since(table, zone)
			from, whyFrom := tail.Since(table, zone)
			if from != wantFrom || whyFrom != whyNotFrom {
				t.Fatalf("of %+v, zone %d: since %d, %d; not %d, %d", table, zone, from, whyFrom, wantFrom, whyNotFrom)
			}
			lasting, _ := split(table, z.Eras[len(z.Eras)-1])
			many[kind{min(len(lasting), 3), p.Dst != "", why, whyFrom}]++
			if whyFrom == api.OK {
				compareGood(t, random, table, zone, p, from)
			}
		}
	}
	for _, k := range []kind{
		{0, false, api.OK, api.OK}, {1, false, api.OK, api.OK}, {2, true, api.OK, api.OK}, {0, false, api.OK, api.ErrRange}, {1, false, api.OK, api.ErrRange}, {2, true, api.OK, api.ErrRange},
		{0, false, api.ErrForm, api.ErrForm}, {1, false, api.ErrForm, api.ErrForm}, {2, false, api.ErrForm, api.ErrForm}, {3, false, api.ErrForm, api.ErrForm},
	} {
		if many[k] < 20 {
			t.Errorf("%d of %+v", many[k], k)
		}
	}
}

// Promise 50.4: what the sample has, too, where what lasts is at the end of all years.
func TestSample(t *testing.T) {
	random := rand.New(rand.NewSource(504))
	for range 2000 {
		table := sample.Table(random.Intn)
		for zone := range table.Zones {
			want, whyNot := of(table, zone)
			if p, why := tail.Of(table, zone); p != want || why != whyNot {
				t.Fatalf("of %+v, zone %d: %+v, %d; not %+v, %d", table, zone, p, why, want, whyNot)
			}
			wantFrom, whyNot := since(table, zone)
			from, why := tail.Since(table, zone)
			if from != wantFrom || why != whyNot {
				t.Fatalf("of %+v, zone %d: since %d, %d; not %d, %d", table, zone, from, why, wantFrom, whyNot)
			}
			if why == api.OK {
				compareGood(t, random, table, zone, want, from)
			}
		}
	}
}

// Promise 50.5: there and back.
func TestThereAndBack(t *testing.T) {
	random := rand.New(rand.NewSource(505))
	for range 20000 {
		p := rightPosix(random)
		rules, e, _ := tail.Rules(p)
		if again, why := tail.Of(alone(rules, e), 0); again != p || why != api.OK {
			t.Fatalf("%+v comes back as %+v, %d", p, again, why)
		}
		slices.Reverse(rules)
		if again, why := tail.Of(alone(rules, e), 0); again != p || why != api.OK {
			t.Fatalf("%+v comes back as %+v, %d", p, again, why)
		}
	}
}

// Promise 50.2: seconds of days by the wall clock, at both ends of what may be.
func TestWallClock(t *testing.T) {
	tests := []struct {
		base     int
		off, sec int64
		from, to int64
		want     api.Errno
	}{
		{api.AtWall, 0, 172800, 172800, 172800, api.OK},
		{api.AtWall, -54000, 0, 0, 0, api.OK},
		{api.AtStd, 0, 172800, 0, 0, api.ErrForm},
		{api.AtStd, 54000, 172800 - hour, 172800 - hour, 172800, api.OK},
		{api.AtStd, 0, 172800 - hour + 1, 0, 0, api.ErrForm},
		{api.AtStd, -54000, 0, 0, hour, api.OK},
		{api.AtUtc, 0, 172800 - hour, 172800 - hour, 172800, api.OK},
		{api.AtUtc, hour, 172800 - hour, 0, 0, api.ErrForm},
		{api.AtUtc, hour, 172800 - 2*hour, 172800 - hour, 172800, api.OK},
		{api.AtUtc, 54000, 172800, 0, 0, api.ErrForm},
		{api.AtUtc, -hour, 0, 0, 0, api.ErrForm},
		{api.AtUtc, -hour, hour, 0, hour, api.OK},
		{api.AtUtc, -54000, 54000, 0, hour, api.OK},
		{api.AtUtc, -54000, 53999, 0, 0, api.ErrForm},
	}
	for _, test := range tests {
		rules := sample.US()
		for i := range rules {
			rules[i].At = api.At{Sec: test.sec, Base: test.base}
		}
		table := alone(rules, api.Era{Off: test.off, Kind: api.RulesNamed, Rules: "US", Format: "E%sT"})
		if why := load.Table(table); why != api.OK {
			t.Fatalf("%+v does not fit: %d", table, why)
		}
		if p, why := tail.Of(table, 0); p.From.Sec != test.from || p.To.Sec != test.to || why != test.want {
			t.Errorf("of %+v: %+v, %d", test, p, why)
		}
	}
}

// Promise 50.2: by the wall clock days may be too close that are not so by their own clocks.
func TestTooClose(t *testing.T) {
	const source = "Rule R 1990 max - Apr Sun>=22 0:00 1:00 S\nRule R 1990 max - May Sun>=1 24:00u 0 W\nZone A -1:00:01 R A%sT\nZone B -1:00 R A%sT\n"
	table, fault := load.Source(source)
	if fault.Err != api.OK {
		t.Fatal(fault)
	}
	if p, why := tail.Of(table, 0); p != (api.Posix{}) || why != api.ErrForm {
		t.Errorf("too close: %+v, %d", p, why)
	}
	if p, why := tail.Of(table, 1); p.To.Sec != 24*hour || why != api.OK {
		t.Errorf("not too close: %+v, %d", p, why)
	}
}

// Promise 50.1 to 50.3: tables that do not fit have answers; beside an error there is nothing.
func TestUnfit(t *testing.T) {
	l := sample.Unfit()
	for _, n := range []int64{math.MinInt64, math.MinInt64 + 1, math.MaxInt64 - 1, math.MaxInt64} {
		for _, change := range []func(r *api.Rule){
			func(r *api.Rule) { r.Save = n },
			func(r *api.Rule) { r.At = api.At{Sec: n, Base: api.AtUtc} },
			func(r *api.Rule) { r.Month = int(n) },
			func(r *api.Rule) { r.On.Week = int(n) },
			func(r *api.Rule) { r.On.Day = int(n) },
			func(r *api.Rule) { r.On = api.On{Kind: api.OnUpTo, Day: int(n)} },
			func(r *api.Rule) { r.From = int(n) },
			func(r *api.Rule) { r.Letter = "<>" },
		} {
			for at := range 2 {
				rules := sample.US()
				change(&rules[at])
				l = append(l, alone(rules, sample.East()))
			}
		}
		e := sample.East()
		e.Off = n
		l = append(l, alone(sample.US(), e))
		first := api.Era{Format: "ABC"}
		l = append(l, api.Table{Rules: sample.US(), Zones: []api.Zone{{Eras: []api.Era{first, e}}, {Eras: []api.Era{first, sample.East()}}}})
	}
	for _, table := range l {
		for zone := -1; zone <= len(table.Zones); zone++ {
			p, why := tail.Of(table, zone)
			if why != api.OK && p != (api.Posix{}) || why == api.OK && !posix.Right(p) {
				t.Errorf("of %+v: %+v, %d", table, p, why)
			}
			since, whySince := tail.Since(table, zone)
			if whySince != api.OK && since != 0 || why != api.OK && whySince != why || since < minT || since > maxT {
				t.Errorf("of %+v: %d, %d beside %d", table, since, whySince, why)
			}
		}
	}
}

// Promises 50.2 and 50.3: the table is left as it is.
func TestUnchanged(t *testing.T) {
	random := rand.New(rand.NewSource(506))
	for range 200 {
		table := anyTable(random)
		was := api.Table{Rules: slices.Clone(table.Rules)}
		for _, z := range table.Zones {
			was.Zones = append(was.Zones, api.Zone{Name: z.Name, Eras: slices.Clone(z.Eras)})
		}
		for zone := range table.Zones {
			tail.Of(table, zone)
			tail.Since(table, zone)
		}
		if !reflect.DeepEqual(table, was) {
			t.Fatalf("it is %+v, and was %+v", table, was)
		}
	}
}

// Promise 50.2: many rules of one name, of which two last.
func TestManyRules(t *testing.T) {
	var l []api.Rule
	for year := -30000; len(l) < api.MaxRules-2; year++ {
		for i, r := range sample.US() {
			r.From, r.To, r.Save = year, year, int64(hour*(1-i))
			l = append(l, r)
		}
	}
	table := alone(append(l, sample.US()...), sample.East())
	if p, why := tail.Of(table, 0); p != coast() || why != api.OK {
		t.Errorf("%+v, %d", p, why)
	}
	want, _ := num.Mul(86400, 14245)
	if since, why := tail.Since(table, 0); since != want || why != api.OK {
		t.Errorf("since %d, %d", since, why)
	}
}
