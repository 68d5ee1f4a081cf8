package chain_test

import (
	"math"
	"math/rand"
	"slices"
	"testing"

	"noontide/api"
	"noontide/chain"
	"noontide/occur"
)

const (
	least   = -32767
	most    = 32767
	mostOff = 54000
	mostNom = 2000000000000
	hour    = 3600
	day     = 86400
)

func us() []api.Rule {
	return []api.Rule{
		{Name: "US", From: 2007, To: most, Month: 3, On: api.On{Kind: api.OnFrom, Day: 8}, At: api.At{Sec: 7200}, Save: hour, Letter: "D"},
		{Name: "US", From: 2007, To: most, Month: 11, On: api.On{Kind: api.OnFrom, Day: 1}, At: api.At{Sec: 7200}, Letter: "S"},
	}
}

// once is a rule of one day of January, by its number.
func once(year, number int, sec int64, base int, save int64) api.Rule {
	return api.Rule{Name: "A", From: year, To: year, Month: 1, On: api.On{Day: number}, At: api.At{Sec: sec, Base: base}, Save: save}
}

// anyRules are rules of a name, many of which occur in the same few days of some years, among others and wrong ones.
func anyRules(random *rand.Rand) []api.Rule {
	from := []int{least, -1, 1970, most - 2}[random.Intn(4)]
	saves := []int64{0, hour, -hour, 10800, -10800, 1}
	var l []api.Rule
	for range random.Intn(10) {
		r := once(from+random.Intn(3), 1+random.Intn(2), random.Int63n(172801), random.Intn(3), saves[random.Intn(len(saves))])
		r.To = min(r.From+random.Intn(3), most)
		switch random.Intn(12) {
		case 0:
			r.Name = "B"
		case 1:
			r.Save = 10801
		case 2:
			r.On.Kind = 4
		case 3:
			r.Month = 7
		}
		l = append(l, r)
		if random.Intn(4) == 0 {
			r.Save = saves[random.Intn(len(saves))]
			r.At.Base = random.Intn(3)
			l = append(l, r)
		}
	}
	random.Shuffle(len(l), func(i, k int) { l[i], l[k] = l[k], l[i] })
	return l
}

func all(l []api.Rule, name string) []api.Occur {
	return occur.In(l, name, api.Span{From: math.MinInt64, To: math.MaxInt64}, math.MaxInt)
}

// saved goes by the words; of are all occurrences, in order.
func saved(l []api.Rule, of []api.Occur, o api.Occur) int64 {
	var save int64
	for _, ahead := range of {
		if occur.Less(ahead, o) {
			save = l[ahead.Rule].Save
		}
	}
	return save
}

// ahead goes by the words.
func ahead(base int, off, save int64) int64 {
	return []int64{off + save, off, 0}[base]
}

func instant(l []api.Rule, of []api.Occur, off int64, o api.Occur) int64 {
	return o.Nom - ahead(l[o.Rule].At.Base, off, saved(l, of, o))
}

func offs() []int64 {
	return []int64{0, -5 * hour, 1172, mostOff, -mostOff}
}

func wrongOffs() []int64 {
	return []int64{mostOff + 1, -mostOff - 1, math.MaxInt64, math.MinInt64, 1 << 32, -1 << 32}
}

// Promise 26.1: what is saved ahead of occurrences, and of what is none.
func TestSaved(t *testing.T) {
	random := rand.New(rand.NewSource(26))
	for range 1500 {
		l := anyRules(random)
		of := all(l, "A")
		froms := []api.Occur{{}, {Nom: math.MinInt64, Rule: math.MinInt}, {Nom: math.MaxInt64, Rule: math.MaxInt}, {Nom: math.MinInt64}, {Nom: math.MaxInt64}, {Nom: 0, Rule: -1, Year: 5}}
		for _, o := range of {
			for _, nom := range []int64{o.Nom - 1, o.Nom, o.Nom + 1} {
				for _, place := range []int{o.Rule - 1, o.Rule, o.Rule + 1, math.MinInt, math.MaxInt} {
					froms = append(froms, api.Occur{Nom: nom, Rule: place, Year: random.Intn(3)})
				}
			}
		}
		for _, from := range froms {
			if save, want := chain.Saved(l, "A", from), saved(l, of, from); save != want {
				t.Fatalf("ahead of %v in %v is saved %d; not %d", from, l, save, want)
			}
		}
	}
	for _, l := range [][]api.Rule{nil, us(), {once(2000, 1, 0, 5, hour)}} {
		if save := chain.Saved(l, "A", api.Occur{Nom: math.MaxInt64}); save != 0 {
			t.Errorf("of a name that is not in %v is saved %d", l, save)
		}
	}
}

// Promise 26.1: instants that are known.
func TestKnownInstants(t *testing.T) {
	spring, autumn := api.Occur{Rule: 0, Year: 2024, Nom: 1710036000}, api.Occur{Rule: 1, Year: 2024, Nom: 1730599200}
	first := api.Occur{Rule: 0, Year: 2007, Nom: 1173578400}
	tests := []struct {
		o     api.Occur
		base  int
		ahead int64
	}{
		{first, api.AtWall, -5 * hour}, {spring, api.AtWall, -5 * hour}, {autumn, api.AtWall, -4 * hour},
		{first, api.AtStd, -5 * hour}, {spring, api.AtStd, -5 * hour}, {autumn, api.AtStd, -5 * hour},
		{first, api.AtUtc, 0}, {spring, api.AtUtc, 0}, {autumn, api.AtUtc, 0},
	}
	for _, x := range tests {
		l := us()
		l[0].At.Base, l[1].At.Base = x.base, x.base
		if at, why := chain.Instant(l, "US", -5*hour, x.o); at != x.o.Nom-x.ahead || why != api.OK {
			t.Errorf("Instant of %v by %d: %d, %d; not %d", x.o, x.base, at, why, x.o.Nom-x.ahead)
		}
	}
}

// Promise 26.1: instants of any rules; what is no occurrence of the name; and what is beyond MaxOff, ahead of that.
func TestInstant(t *testing.T) {
	random := rand.New(rand.NewSource(261))
	for range 1500 {
		l := anyRules(random)
		of := all(l, "A")
		none := []api.Occur{{Nom: 5}, {Rule: -1}, {Rule: len(l)}, {Rule: math.MinInt}, {Rule: math.MaxInt}}
		for _, o := range of {
			for _, off := range offs() {
				want := instant(l, of, off, o)
				if at, why := chain.Instant(l, "A", off, o); at != want || why != api.OK {
					t.Fatalf("Instant of %v in %v under %d: %d, %d; not %d", o, l, off, at, why, want)
				}
			}
			for _, off := range wrongOffs() {
				compareNone(t, l, "A", off, o, api.ErrRange)
			}
			compareNone(t, l, "B", 0, o, api.ErrNone)
			none = append(none,
				api.Occur{Rule: o.Rule, Year: o.Year, Nom: o.Nom + 1}, api.Occur{Rule: o.Rule, Year: o.Year, Nom: o.Nom - 1}, api.Occur{Rule: o.Rule, Year: o.Year + 1, Nom: o.Nom},
				api.Occur{Rule: o.Rule, Year: l[o.Rule].From - 1, Nom: o.Nom}, api.Occur{Rule: o.Rule, Year: l[o.Rule].To + 1}, api.Occur{Rule: -1, Year: o.Year, Nom: o.Nom}, api.Occur{Rule: len(l), Year: o.Year, Nom: o.Nom})
		}
		for place, r := range l {
			if _, why := occur.Nom(r, r.From); why != api.OK {
				none = append(none, api.Occur{Rule: place, Year: r.From}, api.Occur{Rule: place})
			}
		}
		for _, o := range none {
			compareNone(t, l, "A", mostOff, o, api.ErrNone)
			compareNone(t, l, "A", mostOff+1, o, api.ErrRange)
		}
	}
}

func compareNone(t *testing.T, l []api.Rule, name string, off int64, o api.Occur, want api.Errno) {
	t.Helper()
	if at, why := chain.Instant(l, name, off, o); at != 0 || why != want {
		t.Fatalf("Instant of %v in %v under %d: %d, %d; not 0, %d", o, l, off, at, why, want)
	}
}

// lastAndAfter go by the words; of are all occurrences, in order.
func lastAndAfter(l []api.Rule, of []api.Occur, off, t int64) (last, after api.Occur, isLast, isAfter bool) {
	for _, o := range of {
		at := instant(l, of, off, o)
		if at <= t {
			last, isLast = o, true
		}
		if at > t && !isAfter {
			after, isAfter = o, true
		}
	}
	return last, after, isLast, isAfter
}

func compareAround(t *testing.T, l []api.Rule, of []api.Occur, off, at int64) {
	t.Helper()
	last, after, isLast, isAfter := lastAndAfter(l, of, off, at)
	if o, ok := chain.Last(l, "A", off, at); o != last || ok != isLast {
		t.Fatalf("Last of %v under %d at %d: %v, %t; not %v, %t", l, off, at, o, ok, last, isLast)
	}
	if o, ok := chain.After(l, "A", off, at); o != after || ok != isAfter {
		t.Fatalf("After of %v under %d at %d: %v, %t; not %v, %t", l, off, at, o, ok, after, isAfter)
	}
}

// times are seconds at which something may be otherwise, and such that are far from all.
func times(l []api.Rule, of []api.Occur, off int64) []int64 {
	times := []int64{math.MinInt64, math.MinInt64 + 1, -mostNom - 1, api.MinT - 9*day, api.MinT, -1, 0, 1, api.MaxT, api.MaxT + 9*day, mostNom + 1, math.MaxInt64 - 1, math.MaxInt64}
	for _, o := range of {
		at := instant(l, of, off, o)
		times = append(times, at-1, at, at+1, o.Nom, o.Nom-mostOff-10800, o.Nom+mostOff+10800, o.Nom+180*day)
	}
	return times
}

// Promise 26.2: any rules, whose instants are often not in their order.
func TestLastAndAfter(t *testing.T) {
	random := rand.New(rand.NewSource(262))
	notInOrder := 0
	for range 1500 {
		l := anyRules(random)
		kept := slices.Clone(l)
		of := all(l, "A")
		off := offs()[random.Intn(len(offs()))]
		for _, at := range times(l, of, off) {
			compareAround(t, l, of, off, at)
		}
		for _, at := range []int64{0, math.MinInt64, math.MaxInt64} {
			for _, off := range wrongOffs() {
				last, isLast := chain.Last(l, "A", off, at)
				after, isAfter := chain.After(l, "A", off, at)
				if last != (api.Occur{}) || after != (api.Occur{}) || isLast || isAfter {
					t.Fatalf("under %d: %v, %v", off, last, after)
				}
			}
		}
		for i := range of[:max(len(of)-1, 0)] {
			if instant(l, of, off, of[i]) > instant(l, of, off, of[i+1]) {
				notInOrder++
			}
		}
		if !slices.Equal(l, kept) {
			t.Fatal("the rules are changed")
		}
	}
	if notInOrder < 500 {
		t.Errorf("there were but %d instants ahead of that ahead", notInOrder)
	}
}

// Promise 26.2: instants as far from their nominal seconds as they may be, either way, with others, of the same nominal second, that are as far the other way.
func TestFarthest(t *testing.T) {
	for _, save := range []int64{10800, -10800} {
		for _, off := range []int64{mostOff, -mostOff} {
			l := []api.Rule{once(1999, 1, 0, api.AtUtc, save), once(2000, 2, 0, api.AtWall, -save), once(2000, 2, 0, api.AtUtc, save), once(2000, 2, 0, api.AtWall, 0), once(2000, 2, 0, api.AtWall, save), once(2001, 2, 0, api.AtWall, save)}
			of := all(l, "A")
			for _, at := range times(l, of, off) {
				compareAround(t, l, of, off, at)
			}
		}
	}
}

// Promise 26.2: rules of all years, at their ends and in between.
func TestAllYears(t *testing.T) {
	l := us()
	l[0].From, l[1].From = least, least
	of := all(l, "US")
	save := int64(0)
	for i, o := range of {
		at := o.Nom + 5*hour - save
		if i < 9 || i%1000 == 0 || i > len(of)-9 {
			last, ok := chain.Last(l, "US", -5*hour, at)
			if last != o || !ok {
				t.Errorf("Last at %d: %v, %t; not %v", at, last, ok, o)
			}
			last, ok = chain.Last(l, "US", -5*hour, at-1)
			if ok != (i > 0) || ok && last != of[i-1] {
				t.Errorf("Last ahead of %d: %v, %t", at, last, ok)
			}
			after, ok := chain.After(l, "US", -5*hour, at-1)
			if after != o || !ok {
				t.Errorf("After ahead of %d: %v, %t; not %v", at, after, ok, o)
			}
			after, ok = chain.After(l, "US", -5*hour, at)
			if ok != (i < len(of)-1) || ok && after != of[i+1] {
				t.Errorf("After at %d: %v, %t", at, after, ok)
			}
		}
		save = l[o.Rule].Save
	}
}

// Promise 26.2: of a name without rules there is none.
func TestNothing(t *testing.T) {
	for _, l := range [][]api.Rule{nil, us(), {once(2000, 1, -1, 0, 0)}} {
		for _, at := range []int64{math.MinInt64, 0, math.MaxInt64} {
			compareAround(t, l, nil, 0, at)
		}
	}
}

// Promise 26.3: the instants at which clocks show something.
func TestClock(t *testing.T) {
	random := rand.New(rand.NewSource(263))
	for range 1500 {
		l := anyRules(random)
		of := all(l, "A")
		noms := []int64{-mostNom, -mostNom + 1, -1, 0, 1, mostNom - 1, mostNom}
		for _, o := range of {
			noms = append(noms, o.Nom-1, o.Nom, o.Nom+1)
		}
		for _, nom := range noms {
			var save int64
			for _, o := range of {
				if o.Nom < nom {
					save = l[o.Rule].Save
				}
			}
			for base := range 3 {
				off := offs()[random.Intn(len(offs()))]
				if at, why := chain.Clock(l, "A", off, nom, base); at != nom-ahead(base, off, save) || why != api.OK {
					t.Fatalf("Clock of %v under %d, at %d by %d: %d, %d; not %d", l, off, nom, base, at, why, nom-ahead(base, off, save))
				}
			}
		}
	}
}

// Promise 26.3: what is out of range is told ahead of a base that there is not.
func TestClockErrors(t *testing.T) {
	ask := func(off, nom int64, base int, want api.Errno) {
		t.Helper()
		if at, why := chain.Clock(us(), "US", off, nom, base); at != 0 || why != want {
			t.Errorf("Clock under %d, at %d by %d: %d, %d; not 0, %d", off, nom, base, at, why, want)
		}
	}
	wrongBases := []int{-1, 3, math.MinInt, math.MaxInt}
	for _, base := range wrongBases {
		for _, nom := range []int64{0, mostNom, -mostNom} {
			ask(mostOff, nom, base, api.ErrForm)
			ask(-mostOff, nom, base, api.ErrForm)
		}
	}
	for _, base := range append(wrongBases, 0, 1, 2) {
		for _, off := range wrongOffs() {
			ask(off, 0, base, api.ErrRange)
			ask(off, mostNom+1, base, api.ErrRange)
		}
		for _, nom := range []int64{mostNom + 1, -mostNom - 1, math.MaxInt64, math.MinInt64} {
			ask(0, nom, base, api.ErrRange)
		}
	}
}

// Promise 26.4: no instant of any rules is farther from its nominal second.
func TestNotFar(t *testing.T) {
	random := rand.New(rand.NewSource(264))
	for range 500 {
		l := anyRules(random)
		for _, o := range all(l, "A") {
			for _, off := range offs() {
				at, why := chain.Instant(l, "A", off, o)
				if far := at - o.Nom; why != api.OK || far > mostOff+10800 || far < -mostOff-10800 {
					t.Fatalf("%v of %v is at %d under %d", o, l, at, off)
				}
			}
		}
	}
}

// Promise 26.5: of rules whose occurrences are just far enough from each other instants are in order, After is the Next of Last, and Last is not behind.
func TestAround(t *testing.T) {
	random := rand.New(rand.NewSource(265))
	for range 500 {
		var l []api.Rule
		for i := range 7 {
			l = append(l, once(2000, 1+4*i, 7200, random.Intn(3), random.Int63n(21601)-10800))
		}
		random.Shuffle(len(l), func(i, k int) { l[i], l[k] = l[k], l[i] })
		off := random.Int63n(2*mostOff+1) - mostOff
		before := int64(math.MinInt64)
		for _, o := range all(l, "A") {
			at, _ := chain.Instant(l, "A", off, o)
			if at <= before {
				t.Fatalf("%v of %v is at %d, not behind %d", o, l, at, before)
			}
			before = at
		}
		for range 50 {
			at := 946684800 + random.Int63n(40*day) - 5*day
			last, isLast := chain.Last(l, "A", off, at)
			after, isAfter := chain.After(l, "A", off, at)
			if !isLast {
				last = api.Occur{Nom: math.MinInt64}
			}
			if next, ok := occur.Next(l, "A", last); next != after || ok != isAfter {
				t.Fatalf("behind %v comes %v; not %v", last, next, after)
			}
			if lastAt, _ := chain.Instant(l, "A", off, last); isLast && lastAt > at {
				t.Fatalf("%v is at %d, behind %d", last, lastAt, at)
			}
		}
	}
}

// The example of promise 26.1, by its own numbers.
func TestExample(t *testing.T) {
	l := us()
	o, _ := occur.Next(l, "US", api.Occur{Nom: 1720000000})
	if at, why := chain.Instant(l, "US", -18000, o); at != o.Nom+4*hour || why != api.OK {
		t.Error(at, why)
	}
	l[1].At.Base = api.AtStd
	if at, why := chain.Instant(l, "US", -18000, o); at != o.Nom+5*hour || why != api.OK {
		t.Error(at, why)
	}
}
