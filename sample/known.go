package sample

import (
	"noontide/api"
	"noontide/num"
)

const hour = 3600

// US are rules of two changes a year, from 2007 on.
func US() []api.Rule {
	return []api.Rule{
		{Name: "US", From: 2007, To: api.MaxYear, Month: 3, On: api.On{Kind: api.OnFrom, Day: 8}, At: api.At{Sec: 2 * hour}, Save: hour, Letter: "D"},
		{Name: "US", From: 2007, To: api.MaxYear, Month: 11, On: api.On{Kind: api.OnFrom, Day: 1}, At: api.At{Sec: 2 * hour}, Letter: "S"},
	}
}

// East is an era of these rules.
func East() api.Era {
	return api.Era{Off: -5 * hour, Kind: api.RulesNamed, Rules: "US", Format: "E%sT"}
}

// Beginning is the end of an era at the beginning of a year.
func Beginning(year int) api.Until {
	return api.Until{Has: true, Year: year, Month: 1, On: api.On{Day: 1}}
}

// Two is a table of a zone of two eras, which meet at -631155600, and of one of East alone.
func Two() api.Table {
	return api.Table{Rules: US(), Zones: []api.Zone{
		{Name: "A", Eras: []api.Era{{Off: hour, Format: "X", Until: Beginning(1950)}, {Off: 2 * hour, Format: "Y"}}},
		{Name: "E", Eras: []api.Era{East()}},
	}}
}

// Far are seconds at both ends of those that have a stamp, around the first one of 1970, and as far from that as there are numbers.
func Far() []int64 {
	return []int64{num.Least, num.Least + 1, api.MinT - 1, api.MinT, api.MinT + 1, -1, 0, 1, api.MaxT - 1, api.MaxT, api.MaxT + 1, num.Great - 1, num.Great}
}

// Around are seconds at, ahead of and behind each one of l, and the far ones.
func Around(l []int64) []int64 {
	times := Far()
	for _, t := range l {
		times = append(times, t-api.DaySecs, t-1, t, t+1, t+api.DaySecs)
	}
	return times
}
