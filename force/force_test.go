package force_test

import (
	"math"
	"math/rand"
	"slices"
	"strings"
	"testing"

	"noontide/apart"
	"noontide/api"
	"noontide/chain"
	"noontide/force"
	"noontide/format"
	"noontide/occur"
	"noontide/sample"
)

const (
	least = -32767
	most  = 32767
	hour  = 3600
	day   = 86400
)

// once is a rule of one day of a month, at its beginning by universal time.
func once(year, month int, save int64, letter string) api.Rule {
	return api.Rule{Name: "A", From: year, To: year, Month: month, On: api.On{Day: 1}, At: api.At{Base: api.AtUtc}, Save: save, Letter: letter}
}

// named has the rules of A.
func named(off int64, format string) api.Era {
	return api.Era{Off: off, Kind: api.RulesNamed, Rules: "A", Format: format}
}

// wrong are eras that may not be.
func wrong() []api.Era {
	sets := []func(e *api.Era){
		func(e *api.Era) { e.Off = 54001 },
		func(e *api.Era) { e.Off = -54001 },
		func(e *api.Era) { e.Off = math.MaxInt64 },
		func(e *api.Era) { e.Off = math.MinInt64 },
		func(e *api.Era) { e.Kind = 3 },
		func(e *api.Era) { e.Kind = -1 },
		func(e *api.Era) { e.Kind = api.RulesNone },
		func(e *api.Era) { e.Kind = api.RulesFixed },
		func(e *api.Era) { e.Save = 1 },
		func(e *api.Era) { e.Rules = "" },
		func(e *api.Era) { e.Rules = "1" },
		func(e *api.Era) { e.Rules = strings.Repeat("U", 65) },
		func(e *api.Era) { e.Format = "" },
		func(e *api.Era) { e.Format = "a/b/c" },
		func(e *api.Era) { e.Format = strings.Repeat("X", 17) },
		func(e *api.Era) { e.Until.Year = 1 },
		func(e *api.Era) { e.Until = api.Until{Has: true} },
		func(e *api.Era) {
			e.Until = api.Until{Has: true, Year: most, Month: 1, On: api.On{Day: 1}}
		},
		func(e *api.Era) { *e = api.Era{} },
		func(e *api.Era) { *e = api.Era{Save: 1, Format: "X"} },
		func(e *api.Era) { *e = api.Era{Kind: api.RulesFixed, Save: 10801, Format: "X"} },
		func(e *api.Era) { *e = api.Era{Kind: api.RulesFixed, Save: -10801, Format: "X"} },
	}
	var l []api.Era
	for _, set := range sets {
		e := sample.East()
		set(&e)
		l = append(l, e)
	}
	return l
}

// made goes by the words.
func made(e api.Era, save int64, letter string) api.Value {
	abbr, _ := format.Abbr(e.Format, e.Off+save, save, letter)
	return api.Value{Off: e.Off + save, Save: save, Abbr: abbr}
}

// step is an instant, and what holds from it on.
type step struct {
	at    int64
	value api.Value
}

// walk is what holds in an era, step by step, by the words; the first step is ahead of all seconds.
func walk(rules []api.Rule, e api.Era) []step {
	if e.Kind != api.RulesNamed {
		return []step{{math.MinInt64, made(e, e.Save, "")}}
	}
	letter := ""
	for _, r := range slices.Backward(rules) {
		if r.Name == e.Rules && r.Save == 0 {
			letter = r.Letter
		}
	}
	l := []step{{math.MinInt64, made(e, 0, letter)}}
	for _, o := range occur.In(rules, e.Rules, api.Span{From: math.MinInt64, To: math.MaxInt64}, math.MaxInt) {
		at, _ := chain.Instant(rules, e.Rules, e.Off, o)
		r := rules[o.Rule]
		l = append(l, step{at, made(e, r.Save, r.Letter)})
	}
	return l
}

// around goes along the steps: what holds at t, and which steps change something, behind t and not behind it.
func around(steps []step, t int64) (v api.Value, prev, next int64, isPrev, isNext bool) {
	v = steps[0].value
	for _, s := range steps[1:] {
		switch {
		case s.at <= t && s.value != v:
			v, prev, isPrev = s.value, s.at, true
		case s.at > t && s.value != v && !isNext:
			next, isNext = s.at, true
		}
	}
	return v, prev, next, isPrev, isNext
}

func compare(t *testing.T, rules []api.Rule, e api.Era, steps []step, at int64) {
	t.Helper()
	v, prev, next, isPrev, isNext := around(steps, at)
	if got, why := force.At(rules, e, at); got != v || why != api.OK {
		t.Fatalf("At of %v with %v at %d: %v, %d; not %v", e, rules, at, got, why, v)
	}
	if got, ok := force.Prev(rules, e, at); got != prev || ok != isPrev {
		t.Fatalf("Prev of %v with %v at %d: %d, %t; not %d, %t", e, rules, at, got, ok, prev, isPrev)
	}
	if got, ok := force.Next(rules, e, at); got != next || ok != isNext {
		t.Fatalf("Next of %v with %v at %d: %d, %t; not %d, %t", e, rules, at, got, ok, next, isNext)
	}
}

// times are seconds at, ahead of and behind all steps, and far ones.
func times(steps []step) []int64 {
	l := append(sample.Far(), -2000000064801, 2000000064801)
	for _, s := range steps[1:] {
		l = append(l, s.at-day, s.at-1, s.at, s.at+1, s.at+100*day)
	}
	return l
}

// anyRule may be, of A or of B, in some years behind one.
func anyRule(random *rand.Rand, from int) api.Rule {
	from = min(max(from+random.Intn(4), least), most)
	to := min(from+random.Intn(4), most)
	on := []api.On{{Day: 1 + random.Intn(28)}, {Kind: api.OnLast, Week: random.Intn(7)}, {Kind: api.OnFrom, Week: random.Intn(7), Day: 1}, {Kind: api.OnUpTo, Week: random.Intn(7), Day: 28}}
	return api.Rule{
		Name: []string{"A", "A", "A", "B"}[random.Intn(4)], From: from, To: to, Month: 1 + random.Intn(12), On: on[random.Intn(4)],
		At:     api.At{Sec: []int64{0, 172800, random.Int63n(172801)}[random.Intn(3)], Base: random.Intn(3)},
		Save:   []int64{0, 0, hour, hour, -hour, 10800, -10800}[random.Intn(7)],
		Letter: []string{"", "S", "D"}[random.Intn(3)],
	}
}

// anyRules fit.
func anyRules(random *rand.Rand) []api.Rule {
	from := []int{least - 2, -2, 1970, 2000, most - 4}[random.Intn(5)]
	var l []api.Rule
	for range random.Intn(12) {
		more := append(slices.Clone(l), anyRule(random, from))
		if at, _ := apart.Check(more); at < 0 {
			l = more
		}
	}
	return l
}

func anyEra(random *rand.Rand) api.Era {
	e := api.Era{Off: []int64{0, 54000, -54000, -5 * hour, random.Int63n(108001) - 54000}[random.Intn(5)], Format: []string{"X", "E%sT", "%s", "%z", "S/D"}[random.Intn(5)]}
	switch random.Intn(8) {
	case 0:
	case 1:
		e.Kind, e.Save = api.RulesFixed, []int64{0, hour, -10800, 10800}[random.Intn(4)]
	case 2:
		e.Kind, e.Rules = api.RulesNamed, "none"
	case 3:
		e.Kind, e.Rules = api.RulesNamed, "B"
	default:
		e.Kind, e.Rules = api.RulesNamed, "A"
	}
	if random.Intn(2) == 0 {
		// Where an era ends has no part in what holds in it.
		e.Until = api.Until{Has: true, Year: []int{least + 1, 1, 1971, 2002, most - 1}[random.Intn(5)], Month: 1, On: api.On{Day: 1}}
	}
	return e
}

// Promises 33.1 and 33.2: any rules that fit, any eras, around all that occurs, and far from it.
func TestAny(t *testing.T) {
	random := rand.New(rand.NewSource(33))
	changes, none := 0, 0
	for range 4000 {
		rules, e := anyRules(random), anyEra(random)
		kept := slices.Clone(rules)
		steps := walk(rules, e)
		for _, at := range times(steps) {
			compare(t, rules, e, steps, at)
		}
		for i := range steps[1:] {
			if steps[i].value == steps[i+1].value {
				none++
			} else {
				changes++
			}
		}
		if !slices.Equal(rules, kept) {
			t.Fatal("the rules are changed")
		}
	}
	if changes < 5000 || none < 1000 {
		t.Errorf("%d changes, and %d occurrences that change nothing", changes, none)
	}
}

// Promise 33.1: eras of all kinds, by formats of all kinds.
func TestKnown(t *testing.T) {
	fixed := func(off, save int64, format string) api.Era {
		return api.Era{Off: off, Kind: api.RulesFixed, Save: save, Format: format}
	}
	one := []api.Rule{once(1970, 1, hour, "D")}
	tests := []struct {
		rules []api.Rule
		e     api.Era
		at    int64
		want  api.Value
	}{
		{nil, api.Era{Off: hour, Format: "E%sT"}, 0, api.Value{Off: hour, Abbr: "ET"}},
		{nil, api.Era{Off: -hour, Format: "A/B"}, 0, api.Value{Off: -hour, Abbr: "A"}},
		{sample.US(), api.Era{Format: "%z"}, 1719792000, api.Value{Abbr: "+00"}},
		{sample.US(), fixed(hour, hour, "E%sT"), 0, api.Value{Off: 2 * hour, Save: hour, Abbr: "ET"}},
		{nil, fixed(hour, -hour, "%z"), 0, api.Value{Save: -hour, Abbr: "+00"}},
		{nil, fixed(54000, 10800, "%z"), 0, api.Value{Off: 64800, Save: 10800, Abbr: "+18"}},
		{nil, fixed(-54000, -10800, "A/B"), 0, api.Value{Off: -64800, Save: -10800, Abbr: "B"}},
		{nil, fixed(-54000, 0, "A/B"), 0, api.Value{Off: -54000, Abbr: "A"}},
		{sample.US(), sample.East(), 1719792000, api.Value{Off: -4 * hour, Save: hour, Abbr: "EDT"}},
		{sample.US(), sample.East(), 1710053999, api.Value{Off: -5 * hour, Abbr: "EST"}},
		{sample.US(), sample.East(), 1710054000, api.Value{Off: -4 * hour, Save: hour, Abbr: "EDT"}},
		{sample.US(), sample.East(), 1730613599, api.Value{Off: -4 * hour, Save: hour, Abbr: "EDT"}},
		{sample.US(), sample.East(), 1730613600, api.Value{Off: -5 * hour, Abbr: "EST"}},
		{sample.US(), sample.East(), math.MinInt64, api.Value{Off: -5 * hour, Abbr: "EST"}},
		{sample.US(), sample.East(), math.MaxInt64, api.Value{Off: -5 * hour, Abbr: "EST"}},
		{nil, sample.East(), 0, api.Value{Off: -5 * hour, Abbr: "ET"}},
		{sample.US(), named(hour, "E%sT"), 1719792000, api.Value{Off: hour, Abbr: "ET"}},
		{one, named(0, "E%sT"), -1, api.Value{Abbr: "ET"}},
		{one, named(0, "E%sT"), 0, api.Value{Off: hour, Save: hour, Abbr: "EDT"}},
		{one, named(1800, "%z"), 0, api.Value{Off: 5400, Save: hour, Abbr: "+0130"}},
	}
	for _, x := range tests {
		if got, why := force.At(x.rules, x.e, x.at); got != x.want || why != api.OK {
			t.Errorf("At of %v with %v at %d: %v, %d; not %v", x.e, x.rules, x.at, got, why, x.want)
		}
	}
}

// Promise 33.1: the letters ahead of all that occurs are those of the first rule in the list, be it the first in time or not, that saves nothing and has the name, though it may occur never.
func TestLettersAheadOfAll(t *testing.T) {
	early, late, saves, other := once(1990, 1, 0, "E"), once(1991, 1, 0, "L"), once(1980, 1, hour, "D"), once(1970, 1, 0, "O")
	other.Name = "B"
	never := once(1990, 13, 0, "any")
	tests := []struct {
		rules []api.Rule
		abbr  string
	}{
		{nil, "()"},
		{[]api.Rule{other}, "()"},
		{[]api.Rule{saves}, "()"},
		{[]api.Rule{other, saves}, "()"},
		{[]api.Rule{early, late}, "(E)"},
		{[]api.Rule{late, early}, "(L)"},
		{[]api.Rule{other, saves, late, early}, "(L)"},
		{[]api.Rule{saves, other, early, late}, "(E)"},
		{[]api.Rule{never}, "(any)"},
		{[]api.Rule{once(1990, 1, 0, ""), late}, "()"},
	}
	for _, x := range tests {
		for _, at := range []int64{math.MinInt64, 0, 315532799} {
			want := api.Value{Off: 7, Abbr: strings.NewReplacer("(", "a", ")", "b").Replace(x.abbr)}
			if got, why := force.At(x.rules, named(7, "a%sb"), at); got != want || why != api.OK {
				t.Errorf("At with %v at %d: %v, %d; not %v", x.rules, at, got, why, want)
			}
		}
	}
}

// Promises 33.1 and 33.2: eras that may not be, with any rules, at any second.
func TestWrongEras(t *testing.T) {
	for _, rules := range [][]api.Rule{nil, sample.US()} {
		for _, e := range wrong() {
			for _, at := range append(sample.Far(), 1719792000) {
				if v, why := force.At(rules, e, at); v != (api.Value{}) || why != api.ErrForm {
					t.Errorf("At of %v: %v, %d", e, v, why)
				}
				next, isNext := force.Next(rules, e, at)
				prev, isPrev := force.Prev(rules, e, at)
				if next != 0 || prev != 0 || isNext || isPrev {
					t.Errorf("of %v: %d, %d", e, next, prev)
				}
			}
		}
	}
}

// Promise 33.2: what occurs, and makes the same hold, is no change: neither the first ones, nor those between, nor the last ones.
func TestNoChange(t *testing.T) {
	rules := []api.Rule{
		once(1970, 1, 0, "S"), once(1971, 1, 0, "S"), once(1972, 1, hour, "D"), once(1973, 1, hour, "D"), once(1974, 1, hour, "E"), once(1975, 1, 0, "S"), once(1976, 1, 0, "S"),
	}
	at := func(years int64) int64 { return years*365*day + (years+1)/4*day }
	tests := []struct {
		format  string
		changes []int64
	}{
		{"a%s", []int64{at(2), at(4), at(5)}},
		{"X", []int64{at(2), at(5)}},
		{"%z", []int64{at(2), at(5)}},
	}
	for _, x := range tests {
		compareChanges(t, rules, named(0, x.format), x.changes)
	}
	compareChanges(t, rules[:2], named(0, "a%s"), nil)
	compareChanges(t, rules[2:5], named(0, "a%s"), []int64{at(2), at(4)})
	compareChanges(t, rules[3:4], named(0, "X"), []int64{at(3)})
	// Without a rule that saves nothing, the first letters are a change.
	compareChanges(t, []api.Rule{once(1970, 1, hour, "D"), once(1971, 1, 0, "")}, named(0, "a%s"), []int64{0, at(1)})
	compareChanges(t, []api.Rule{once(1970, 1, 0, "S"), once(1971, 1, 0, "T")}, named(0, "a%s"), []int64{at(1)})
	compareChanges(t, []api.Rule{once(1971, 1, 0, "S"), once(1970, 1, 0, "T")}, named(0, "a%s"), []int64{0, at(1)})
	compareChanges(t, sample.US(), api.Era{Format: "X"}, nil)
	compareChanges(t, sample.US(), api.Era{Kind: api.RulesFixed, Save: hour, Format: "X"}, nil)
}

// compareChanges goes along the changes, there and back.
func compareChanges(t *testing.T, rules []api.Rule, e api.Era, changes []int64) {
	t.Helper()
	var there, back []int64
	for c, ok := force.Next(rules, e, math.MinInt64); ok; c, ok = force.Next(rules, e, c) {
		there = append(there, c)
	}
	for c, ok := force.Prev(rules, e, math.MaxInt64); ok; c, ok = force.Prev(rules, e, c-1) {
		back = append(back, c)
	}
	slices.Reverse(back)
	if !slices.Equal(there, changes) || !slices.Equal(back, changes) {
		t.Errorf("changes of %v with %v: %v, and %v; not %v", e, rules, there, back, changes)
	}
}

// Promise 33.2: rules of all years, at whose ends something occurs beyond all seconds that have a stamp.
func TestAllYears(t *testing.T) {
	full := func(month int, on api.On, sec, save int64) api.Rule {
		return api.Rule{Name: "A", From: least, To: most, Month: month, On: on, At: api.At{Sec: sec, Base: api.AtWall}, Save: save}
	}
	rules := []api.Rule{full(1, api.On{Kind: api.OnUpTo, Week: 3, Day: 1}, 0, hour), full(12, api.On{Day: 13}, 172800, 0), full(7, api.On{Kind: api.OnLast}, 5, 0)}
	if at, _ := apart.Check(rules); at >= 0 {
		t.Fatal("the rules don't fit")
	}
	e := named(54000, "X")
	steps := walk(rules, e)
	if steps[1].at >= api.MinT {
		t.Fatal("nothing occurs ahead of the first second that has a stamp")
	}
	random := rand.New(rand.NewSource(332))
	picks := slices.Concat(steps[1:10], steps[len(steps)-9:])
	for range 30 {
		picks = append(picks, steps[1+random.Intn(len(steps)-1)])
	}
	for _, s := range picks {
		for _, at := range []int64{s.at - 1, s.at, s.at + 1} {
			compare(t, rules, e, steps, at)
		}
	}
	for _, at := range sample.Far() {
		compare(t, rules, e, steps, at)
	}
}

// Promise 33.2: a change is found though all that occurs in ten thousands of years changes nothing.
func TestLongWithoutChange(t *testing.T) {
	rules := []api.Rule{once(least, 1, 0, ""), once(most, 6, hour, ""), once(0, 12, 0, "")}
	rules[2].From, rules[2].To = least, most
	e := named(0, "X")
	steps := walk(rules, e)
	change := steps[len(steps)-2].at
	for range 2000 {
		next, isNext := force.Next(rules, e, math.MinInt64)
		prev, isPrev := force.Prev(rules, e, change-1)
		if next != change || !isNext || prev != 0 || isPrev {
			t.Fatal(next, isNext, prev, isPrev)
		}
	}
	compareChanges(t, rules, e, []int64{change, steps[len(steps)-1].at})
}

// Promises 33.3 and 33.4: from Prev on up to Next the same holds, and one comes back.
func TestBetween(t *testing.T) {
	random := rand.New(rand.NewSource(333))
	for range 1500 {
		rules, e := anyRules(random), anyEra(random)
		for _, at := range times(walk(rules, e)) {
			v, _ := force.At(rules, e, at)
			next, isNext := force.Next(rules, e, at)
			prev, isPrev := force.Prev(rules, e, at)
			if isNext {
				last, _ := force.At(rules, e, next-1)
				other, _ := force.At(rules, e, next)
				back, ok := force.Prev(rules, e, next)
				if next <= at || last != v || other == v || back != next || !ok {
					t.Fatalf("Next of %v with %v at %d: %d, of which Prev is %d", e, rules, at, next, back)
				}
			}
			if isPrev {
				first, _ := force.At(rules, e, prev)
				other, _ := force.At(rules, e, prev-1)
				there, ok := force.Next(rules, e, prev-1)
				if prev > at || first != v || other == v || there != prev || !ok {
					t.Fatalf("Prev of %v with %v at %d: %d, to which Next is %d", e, rules, at, prev, there)
				}
			}
			for range 5 {
				if !isNext || !isPrev {
					break
				}
				between := prev + random.Int63n(next-prev)
				if got, _ := force.At(rules, e, between); got != v {
					t.Fatalf("At of %v with %v at %d: %v; not %v", e, rules, between, got, v)
				}
			}
		}
	}
}

// Of rules that don't fit there is an answer, whatever it is.
func TestRulesThatDoNotFit(t *testing.T) {
	random := rand.New(rand.NewSource(334))
	for range 2000 {
		var rules []api.Rule
		for range random.Intn(12) {
			r := anyRule(random, 1970)
			r.Month, r.On.Day = 1+random.Intn(2), 1
			switch random.Intn(12) {
			case 0:
				r.Save = math.MaxInt64
			case 1:
				r.Save = math.MinInt64
			case 2:
				r.From, r.To = math.MinInt, math.MaxInt
			case 3:
				r.Month = 13
			case 4:
				r.Letter = strings.Repeat("long", 100)
			case 5:
				r.On.Kind = 4
			}
			rules = append(rules, r)
		}
		e := anyEra(random)
		for _, at := range times(walk(rules, e)) {
			force.At(rules, e, at)
			if prev, ok := force.Prev(rules, e, at); !ok && prev != 0 {
				t.Fatal("beside false stands ", prev)
			}
			if next, ok := force.Next(rules, e, at); ok && next <= at || !ok && next != 0 {
				t.Fatalf("Next of %v with %v at %d: %d, %t", e, rules, at, next, ok)
			}
		}
	}
}

// The example.
func TestExample(t *testing.T) {
	summer, why := force.At(sample.US(), sample.East(), 1719792000)
	if summer != (api.Value{Off: -14400, Save: 3600, Abbr: "EDT"}) || why != api.OK {
		t.Error(summer, why)
	}
	early, why := force.At(sample.US(), sample.East(), 1167609599)
	if early != (api.Value{Off: -18000, Abbr: "EST"}) || why != api.OK {
		t.Error(early, why)
	}
}
