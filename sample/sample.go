// Package sample makes tables that fit, for the tests of those layers that ask for such. It is no layer of the document.
package sample

import (
	"strconv"

	"noontide/apart"
	"noontide/api"
	"noontide/until"
)

// Pick tells a number from 0 on, and below n: what is made hangs on nothing but what it tells.
type Pick func(n int) int

// How much is tried, at most: what doesn't fit beside what is there already is left out.
const (
	mostRules = 14
	mostZones = 3
	mostEras  = 8
)

// someYears are how many years lie between the first and the last one in which something changes.
const someYears = 9

// one is one of l.
func one[T any](pick Pick, l ...T) T {
	return l[pick(len(l))]
}

// Table is a table that fits, of a few years anywhere, those at both ends of all years among them.
func Table(pick Pick) api.Table {
	year := one(pick, api.MinYear, -4, 1968, 2000, api.MaxYear-someYears)
	var t api.Table
	for range pick(mostRules) {
		more := append(t.Rules, Rule(pick, year))
		if at, _ := apart.Check(more); at < 0 {
			t.Rules = more
		}
	}
	for i := range 1 + pick(mostZones) {
		t.Zones = append(t.Zones, api.Zone{Name: "Z" + strconv.Itoa(i), Eras: eras(pick, t.Rules, year)})
	}
	return t
}

// Rule may be, of A or of B, in some years from one on.
func Rule(pick Pick, year int) api.Rule {
	from := year + pick(someYears+1)
	week := pick(7)
	return api.Rule{
		Name: one(pick, "A", "A", "B"), From: from, To: min(from+pick(4), year+someYears), Month: 1 + pick(12),
		On:   one(pick, api.On{Day: 1 + pick(28)}, api.On{Kind: api.OnLast, Week: week}, api.On{Kind: api.OnFrom, Week: week, Day: 22}, api.On{Kind: api.OnUpTo, Week: week, Day: 1}),
		At:   at(pick),
		Save: one[int64](pick, 0, 0, 3600, 3600, -3600, 10800, -10800), Letter: one(pick, "", "S", "D"),
	}
}

func at(pick Pick) api.At {
	return api.At{Sec: one(pick, 0, 3600, api.MaxAt, int64(pick(api.MaxAt+1))), Base: one(pick, api.AtWall, api.AtStd, api.AtUtc)}
}

// eras are those of a zone: the last one has no end, all others have.
func eras(pick Pick, rules []api.Rule, year int) []api.Era {
	l := []api.Era{era(pick, rules)}
	for range pick(mostEras) {
		last := len(l) - 1
		more := append([]api.Era(nil), l...)
		more[last].Until = end(pick, rules, year)
		more = append(more, next(pick, rules, l[last]))
		if at, _ := until.Check(rules, api.Zone{Eras: more}); at < 0 {
			l = more
		}
	}
	return l
}

// next is an era behind one, often such a one that little is, or nothing, otherwise.
func next(pick Pick, rules []api.Rule, ahead api.Era) api.Era {
	e := era(pick, rules)
	switch pick(4) {
	case 0:
		e = ahead
	case 1:
		e.Off, e.Format = ahead.Off, ahead.Format
	case 2:
		e.Kind, e.Save, e.Rules = ahead.Kind, ahead.Save, ahead.Rules
	}
	return e
}

// era has no end. (One of rules has rules that are there.)
func era(pick Pick, rules []api.Rule) api.Era {
	e := api.Era{Off: one(pick, 0, api.MaxOff, -api.MaxOff, int64(pick(2*api.MaxOff+1))-api.MaxOff), Format: one(pick, "X", "E%sT", "%z", "S/D")}
	switch {
	case len(rules) > 0 && pick(4) > 0:
		e.Kind, e.Rules = api.RulesNamed, one(pick, rules...).Name
	case pick(2) == 0:
		e.Kind, e.Save = api.RulesFixed, one[int64](pick, 0, 3600, api.MaxSave, -api.MaxSave)
	}
	return e
}

// end is often just there where a rule changes something.
func end(pick Pick, rules []api.Rule, year int) api.Until {
	u := api.Until{Has: true, Year: year + 1 + pick(someYears-1), Month: 1 + pick(12), On: api.On{Day: 1 + pick(28)}, At: at(pick)}
	if len(rules) > 0 && pick(2) == 0 {
		r := one(pick, rules...)
		u.Month, u.On, u.At = r.Month, r.On, r.At
	}
	return u
}
