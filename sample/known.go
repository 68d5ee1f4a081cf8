package sample

import (
	"noontide/api"
	"noontide/change"
	"noontide/num"
	"noontide/point"
)

const hour = 3600

// US are rules of two changes a year, from 2007 on.
func US() []api.Rule {
	return []api.Rule{
		{Name: "US", From: 2007, To: api.MaxYear, Month: 3, On: api.On{Kind: api.OnFrom, Day: 8}, At: api.At{Sec: 2 * hour}, Save: hour, Letter: "D"},
		{Name: "US", From: 2007, To: api.MaxYear, Month: 11, On: api.On{Kind: api.OnFrom, Day: 1}, At: api.At{Sec: 2 * hour}, Letter: "S"},
	}
}

// East is an era of these rules.
func East() api.Era {
	return api.Era{Off: -5 * hour, Kind: api.RulesNamed, Rules: "US", Format: "E%sT"}
}

// Beginning is the end of an era at the beginning of a year.
func Beginning(year int) api.Until {
	return api.Until{Has: true, Year: year, Month: 1, On: api.On{Day: 1}}
}

// Two is a table of a zone of two eras, which meet at -631155600, and of one of East alone.
func Two() api.Table {
	return api.Table{Rules: US(), Zones: []api.Zone{
		{Name: "A", Eras: []api.Era{{Off: hour, Format: "X", Until: Beginning(1950)}, {Off: 2 * hour, Format: "Y"}}},
		{Name: "E", Eras: []api.Era{East()}},
	}}
}

// Far are seconds at both ends of those that have a stamp, around the first one of 1970, and as far from that as there are numbers.
func Far() []int64 {
	return []int64{num.Least, num.Least + 1, api.MinT - 1, api.MinT, api.MinT + 1, -1, 0, 1, api.MaxT - 1, api.MaxT, api.MaxT + 1, num.Great - 1, num.Great}
}

// Around are seconds at, ahead of and behind each one of l, and the far ones.
func Around(l []int64) []int64 {
	times := Far()
	for _, t := range l {
		times = append(times, t-api.DaySecs, t-1, t, t+1, t+api.DaySecs)
	}
	return times
}

// Infos are the infos of a zone, in order, by the words: changes are their ends.
func Infos(t api.Table, zone int) []api.Info {
	ends := []int64{api.MinT}
	for c, ok := change.Next(t, zone, api.MinT); ok; c, ok = change.Next(t, zone, c) {
		ends = append(ends, c)
	}
	ends = append(ends, api.MaxT+1)
	var l []api.Info
	for i := range ends[1:] {
		v, _ := point.Value(t, zone, ends[i])
		l = append(l, api.Info{Span: api.Span{From: ends[i], To: ends[i+1]}, Value: v})
	}
	return l
}

// Unfit are tables of one zone each that do not fit, but for some few that do.
func Unfit() []api.Table {
	last, first, late, rules := api.Era{Format: "X"}, api.Era{Format: "Y", Until: Beginning(1950)}, East(), East()
	late.Until, rules.Format = Beginning(2030), "a/b/c"
	far, wide := api.Era{Off: num.Great, Format: "F", Until: Beginning(1950)}, api.Era{Off: num.Least, Format: "W"}
	zones := [][]api.Era{
		nil, {}, {{}}, {first}, {last, last}, {first, first}, {{}, last}, {first, {}, last}, {last, first, first, {}, first}, {late}, {late, first}, {late, first, late}, {late, late},
		{late, first, last}, {late, first, late, last}, {late, first, last, first, last}, {{Kind: api.RulesNamed, Rules: "none", Format: "X"}}, {rules}, {first, rules}, {rules, late, first, last},
		{far}, {far, last}, {wide}, {far, wide}, {first, wide}, {{Kind: api.RulesFixed, Save: num.Great, Format: "S"}},
	}
	few, crowded := US(), append(US(), US()...)
	for i := range few {
		few[i].To = 2100
	}
	for i := range crowded {
		crowded[i].To, crowded[i].Month = 2010+i, 3
	}
	var l []api.Table
	for _, eras := range zones {
		for _, rules := range [][]api.Rule{nil, few, crowded} {
			l = append(l, api.Table{Rules: rules, Zones: []api.Zone{{Eras: eras}}})
		}
	}
	return l
}
