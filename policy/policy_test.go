package policy_test

import (
	"math"
	"math/rand"
	"slices"
	"testing"

	"noontide/api"
	"noontide/load"
	"noontide/local"
	"noontide/point"
	"noontide/policy"
	"noontide/sample"
)

const (
	hour  = 3600
	day   = 86400
	minT  = -1096193779200
	maxT  = 971890963199
	first = minT + 172800
	last  = maxT - 172800
)

// said is a second, or why there is none.
type said struct {
	at  int64
	why api.Errno
}

// policies are the three, and such as may not be.
func policies() []int {
	return []int{math.MinInt, -1, 0, 4, 1 << 32, math.MaxInt, api.PolicyEarly, api.PolicyLate, api.PolicyReject}
}

// to is what To must answer in a zone whose infos are l, by the words.
func to(l []api.Info, at int64, how int) said {
	switch {
	case how < 1 || how > 3:
		return said{why: api.ErrForm}
	case at < first || at > last:
		return said{why: api.ErrRange}
	}
	var times []int64
	gap := int64(math.MaxInt64)
	for _, i := range l {
		if t := at - i.Value.Off; i.Span.From <= t && t < i.Span.To {
			times = append(times, t)
		}
		if i.Span.From+i.Value.Off > at {
			gap = min(gap, i.Span.From)
		}
	}
	switch {
	case len(times) == 1:
		return said{at: times[0]}
	case how == api.PolicyReject && len(times) == 0:
		return said{why: api.ErrGap}
	case how == api.PolicyReject:
		return said{why: api.ErrTwo}
	case len(times) == 0:
		return said{at: gap}
	case how == api.PolicyEarly:
		return said{at: times[0]}
	}
	return said{at: times[1]}
}

// anyTimes are local times at, ahead of and behind those at which walls begin and end, between these, and where local times end.
func anyTimes(random *rand.Rand, l []api.Info) []int64 {
	times := append(sample.Far(), math.MinInt64, math.MaxInt64, first-1, first, first+1, last-1, last, last+1)
	for n, i := range l {
		for _, t := range []int64{i.Span.From + i.Value.Off, i.Span.To + i.Value.Off} {
			times = append(times, t-1, t, t+1, t+random.Int63n(2*day)-day)
		}
		if n > 0 {
			times = append(times, i.Span.From+(i.Value.Off+l[n-1].Value.Off)/2)
		}
	}
	return append(times, first+random.Int63n(last-first))
}

func compareTo(t *testing.T, table api.Table, zone int, l int64, how int, want said) {
	t.Helper()
	if at, why := policy.To(table, zone, l, how); (said{at, why}) != want {
		t.Fatalf("To of %d in %v at %d by %d: %d, %d; not %v", zone, table, l, how, at, why, want)
	}
}

func compareFrom(t *testing.T, table api.Table, zone int, at int64, want said) {
	t.Helper()
	if l, why := policy.From(table, zone, at); (said{l, why}) != want {
		t.Fatalf("From of %d in %v at %d: %d, %d; not %v", zone, table, at, l, why, want)
	}
}

func compareAgain(t *testing.T, table api.Table, zone int, at int64, want bool, whyNot api.Errno) {
	t.Helper()
	if again, why := policy.Again(table, zone, at); again != want || why != whyNot {
		t.Fatalf("Again of %d in %v at %d: %t, %d; not %t, %d", zone, table, at, again, why, want, whyNot)
	}
}

// Promise 42.1: any tables that fit, at the ends of all walls, and between, by any policy.
func TestTo(t *testing.T) {
	random := rand.New(rand.NewSource(42))
	many := map[api.Errno]int{}
	for range 100 {
		table := sample.Table(random.Intn)
		for zone := range table.Zones {
			l := sample.Infos(table, zone)
			for _, at := range anyTimes(random, l) {
				for _, how := range policies() {
					want := to(l, at, how)
					many[want.why]++
					compareTo(t, table, zone, at, how, want)
				}
			}
		}
	}
	for _, why := range []api.Errno{api.OK, api.ErrForm, api.ErrRange, api.ErrGap, api.ErrTwo} {
		if many[why] < 500 {
			t.Errorf("%d comes %d times", why, many[why])
		}
	}
}

// Promise 42.1: what is known, to the second.
func TestToKnown(t *testing.T) {
	const spring, fall = 1710054000, 1730613600
	tests := []struct {
		zone                int
		l                   int64
		early, late, reject said
	}{
		{1, spring - 5*hour - 1, said{at: spring - 1}, said{at: spring - 1}, said{at: spring - 1}},
		{1, spring - 5*hour, said{at: spring}, said{at: spring}, said{why: api.ErrGap}},
		{1, spring - 4*hour - 1, said{at: spring}, said{at: spring}, said{why: api.ErrGap}},
		{1, spring - 4*hour, said{at: spring}, said{at: spring}, said{at: spring}},
		{1, fall - 5*hour - 1, said{at: fall - hour - 1}, said{at: fall - hour - 1}, said{at: fall - hour - 1}},
		{1, fall - 5*hour, said{at: fall - hour}, said{at: fall}, said{why: api.ErrTwo}},
		{1, fall - 4*hour - 1, said{at: fall - 1}, said{at: fall + hour - 1}, said{why: api.ErrTwo}},
		{1, fall - 4*hour, said{at: fall + hour}, said{at: fall + hour}, said{at: fall + hour}},
		{0, -631152000, said{at: -631155600}, said{at: -631155600}, said{why: api.ErrGap}},
		{0, first, said{at: first - hour}, said{at: first - hour}, said{at: first - hour}},
		{0, last, said{at: last - 2*hour}, said{at: last - 2*hour}, said{at: last - 2*hour}},
	}
	for _, x := range tests {
		compareTo(t, sample.Two(), x.zone, x.l, api.PolicyEarly, x.early)
		compareTo(t, sample.Two(), x.zone, x.l, api.PolicyLate, x.late)
		compareTo(t, sample.Two(), x.zone, x.l, api.PolicyReject, x.reject)
	}
}

// Promise 42.1: a policy that is none is told ahead of a zone that is not there, and that ahead of what is out of range.
func TestToErrors(t *testing.T) {
	times := append(sample.Far(), math.MinInt64, math.MaxInt64, first-1, first, last, last+1)
	for _, zone := range []int{math.MinInt, -1, 0, 1, 2, math.MaxInt} {
		for _, l := range times {
			for _, how := range policies() {
				why := api.ErrRange
				switch {
				case !policy.Right(how):
					why = api.ErrForm
				case zone != 0 && zone != 1:
					why = api.ErrNone
				case first <= l && l <= last:
					continue
				}
				compareTo(t, sample.Two(), zone, l, how, said{why: why})
			}
		}
	}
}

// Promises 42.1 and 42.2: the policies, and no other numbers, are right.
func TestRight(t *testing.T) {
	for how := -300; how <= 300; how++ {
		if policy.Right(how) != (how == 1 || how == 2 || how == 3) {
			t.Error(how)
		}
	}
	for _, how := range policies() {
		if policy.Right(how) != (how >= 1 && how <= 3) {
			t.Error(how)
		}
	}
}

// Promise 42.2: any tables that fit, at the ends of all infos, around those of walls, and far ones.
func TestFromAndAgain(t *testing.T) {
	random := rand.New(rand.NewSource(422))
	again := map[bool]int{}
	for range 200 {
		table := sample.Table(random.Intn)
		for zone := range table.Zones {
			infos := sample.Infos(table, zone)
			times := append(sample.Far(), math.MinInt64, math.MaxInt64)
			for _, i := range infos {
				for _, end := range []int64{i.Span.From, i.Span.To} {
					times = append(times, end-1, end, end+1, end+random.Int63n(2*day)-day, end+random.Int63n(6*hour)-3*hour)
				}
			}
			for _, at := range times {
				v, why := point.Value(table, zone, at)
				if why != api.OK {
					compareFrom(t, table, zone, at, said{why: why})
					compareAgain(t, table, zone, at, false, why)
					continue
				}
				l := at + v.Off
				compareFrom(t, table, zone, at, said{at: l})
				earlier := to(infos, l, api.PolicyEarly)
				want := earlier.why == api.OK && earlier.at < at
				again[want]++
				compareAgain(t, table, zone, at, want, earlier.why)
			}
		}
	}
	if again[true] < 500 || again[false] < 500 {
		t.Error(again)
	}
}

// Promise 42.2: what is known, to the second, and where local times end.
func TestAgainKnown(t *testing.T) {
	const spring, fall = 1710054000, 1730613600
	for at, want := range map[int64]bool{spring - 1: false, spring: false, spring + hour: false, fall - hour: false, fall - 1: false, fall: true, fall + hour - 1: true, fall + hour: false} {
		compareAgain(t, sample.Two(), 1, at, want, api.OK)
	}
	compareAgain(t, sample.Two(), 0, first-hour-1, false, api.ErrRange)
	compareAgain(t, sample.Two(), 0, first-hour, false, api.OK)
	compareAgain(t, sample.Two(), 0, last-2*hour, false, api.OK)
	compareAgain(t, sample.Two(), 0, last-2*hour+1, false, api.ErrRange)
	compareFrom(t, sample.Two(), 0, minT, said{at: minT + hour})
	compareFrom(t, sample.Two(), 0, maxT, said{at: maxT + 2*hour})
	compareFrom(t, sample.Two(), 1, minT, said{at: minT - 5*hour})
}

// Promise 42.2: that there is no such zone is told ahead of what is out of range.
func TestFromErrors(t *testing.T) {
	for _, zone := range []int{math.MinInt, -1, 0, 1, 2, math.MaxInt} {
		for _, at := range append(sample.Far(), math.MinInt64, math.MaxInt64) {
			why := api.ErrRange
			if zone != 0 && zone != 1 {
				why = api.ErrNone
			} else if minT <= at && at <= maxT {
				continue
			}
			compareFrom(t, sample.Two(), zone, at, said{why: why})
			compareAgain(t, sample.Two(), zone, at, false, why)
		}
	}
}

// Promise 42.3: From of To is the local time, if it has a second; To of From is the second, unless its local time has another one.
func TestThereAndBack(t *testing.T) {
	random := rand.New(rand.NewSource(423))
	for range 60 {
		table := sample.Table(random.Intn)
		for zone := range table.Zones {
			for _, l := range anyTimes(random, sample.Infos(table, zone)) {
				for how := api.PolicyEarly; how <= api.PolicyReject; how++ {
					times, _ := local.Seconds(table, zone, l)
					at, why := policy.To(table, zone, l, how)
					if why != api.OK || len(times) == 0 {
						continue
					}
					compareFrom(t, table, zone, at, said{at: l})
				}
				at := max(first+day, min(l, last-day))
				back, _ := policy.From(table, zone, at)
				if times, _ := local.Seconds(table, zone, back); len(times) == 1 {
					for how := api.PolicyEarly; how <= api.PolicyReject; how++ {
						compareTo(t, table, zone, back, how, said{at: at})
					}
				}
			}
		}
	}
}

// Promise 42.4: early is not behind late; a later local time has no earlier second by late, nor by early.
func TestInOrder(t *testing.T) {
	random := rand.New(rand.NewSource(424))
	for range 100 {
		table := sample.Table(random.Intn)
		for zone := range table.Zones {
			for _, l := range anyTimes(random, sample.Infos(table, zone)) {
				if l < first || l > last-3*day {
					continue
				}
				early, _ := policy.To(table, zone, l, api.PolicyEarly)
				late, _ := policy.To(table, zone, l, api.PolicyLate)
				later, _ := policy.To(table, zone, l+random.Int63n(2*day), api.PolicyLate)
				if early > late || late > later {
					t.Fatalf("of %d in %v at %d: %d, %d, and later %d", zone, table, l, early, late, later)
				}
			}
		}
	}
}

// Whoever finds the infos is handed in.
func TestToBy(t *testing.T) {
	asked := 0
	find := func(at int64) (api.Info, api.Errno) {
		asked++
		return api.Info{Span: api.Span{From: minT, To: maxT + 1}, Value: api.Value{Off: 5}}, api.OK
	}
	if at, why := policy.ToBy(find, 10, api.PolicyReject); at != 5 || why != api.OK || asked == 0 {
		t.Error(at, why, asked)
	}
	none := func(at int64) (api.Info, api.Errno) { return api.Info{}, api.ErrNone }
	if at, why := policy.ToBy(none, math.MaxInt64, api.PolicyReject); at != 0 || why != api.ErrNone {
		t.Error(at, why)
	}
	if at, why := policy.ToBy(none, math.MaxInt64, 0); at != 0 || why != api.ErrForm {
		t.Error(at, why)
	}
}

// What is told of one local time behind the other is what To tells, whether they rise or not.
func TestMeaning(t *testing.T) {
	random := rand.New(rand.NewSource(425))
	for range 60 {
		table := sample.Table(random.Intn)
		zone := random.Intn(len(table.Zones))
		times := anyTimes(random, sample.Infos(table, zone))
		if random.Intn(2) == 0 {
			slices.Sort(times)
		}
		for _, how := range policies() {
			meant := policy.Meaning(table, zone, how)
			for _, l := range times {
				at, why := meant(l)
				compareTo(t, table, zone, l, how, said{at, why})
			}
		}
	}
	if at, why := policy.Meaning(sample.Two(), 2, api.PolicyEarly)(0); at != 0 || why != api.ErrNone {
		t.Error(at, why)
	}
}

// What is shown does not go round.
func TestShown(t *testing.T) {
	tests := []struct {
		at, off int64
		want    said
	}{
		{5, -7, said{at: -2}}, {math.MaxInt64, 1, said{why: api.ErrRange}}, {math.MaxInt64 - 1, 1, said{at: math.MaxInt64}},
		{math.MinInt64, -1, said{why: api.ErrRange}}, {math.MinInt64, 1, said{at: math.MinInt64 + 1}},
	}
	for _, x := range tests {
		if l, why := policy.Shown(x.at, api.Value{Off: x.off, Save: 9, Abbr: "X"}); (said{l, why}) != x.want {
			t.Errorf("%v: %d, %d", x, l, why)
		}
	}
}

// Of a table that does not fit there is an answer, whatever it is; but beside an error there is nothing.
func TestTablesThatDoNotFit(t *testing.T) {
	for _, table := range sample.Unfit() {
		for _, l := range append(sample.Far(), first, last, -631152000, 1893456000) {
			for _, how := range policies() {
				if at, why := policy.To(table, 0, l, how); why != api.OK && at != 0 {
					t.Errorf("To of %v at %d by %d: %d, %d", table, l, how, at, why)
				}
			}
			if x, why := policy.From(table, 0, l); why != api.OK && x != 0 {
				t.Errorf("From of %v at %d: %d, %d", table, l, x, why)
			}
			if again, why := policy.Again(table, 0, l); why != api.OK && again {
				t.Errorf("Again of %v at %d: %t, %d", table, l, again, why)
			}
		}
	}
}

// The example.
func TestExample(t *testing.T) {
	table, fault := load.Source("Rule US 2007 max - Mar Sun>=8 2:00 1:00 D\nRule US 2007 max - Nov Sun>=1 2:00 0 S\nZone E -5:00 US E%sT")
	if fault.Err != api.OK {
		t.Fatal(fault)
	}
	const fall, spring = 1730592000, 1710028800 // both days' first seconds, by universal time
	compareTo(t, table, 0, fall+3*hour/2, api.PolicyEarly, said{at: fall + 11*hour/2})
	compareTo(t, table, 0, fall+3*hour/2, api.PolicyLate, said{at: fall + 13*hour/2})
	compareTo(t, table, 0, spring+5*hour/2, api.PolicyEarly, said{at: spring + 7*hour})
	compareTo(t, table, 0, spring+5*hour/2, api.PolicyLate, said{at: spring + 7*hour})
}
