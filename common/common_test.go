package common_test

import (
	"math"
	"math/rand"
	"reflect"
	"slices"
	"testing"
	"time"

	"noontide/api"
	"noontide/common"
	"noontide/hours"
	"noontide/mean"
	"noontide/sample"
	"noontide/spans"
)

const (
	hour = 3600
	day  = 86400
	week = 7 * day
	long = 34560000
	minT = -1096193779200
	maxT = 971890963199
)

// set is what All and Any answer.
type set struct {
	l   []api.Span
	why api.Errno
}

// counted is what Count answers.
type counted struct {
	l   []api.Part
	why api.Errno
}

// part is what Best answers, and First, as a part of 0.
type part struct {
	api.Part
	why api.Errno
}

// call is All or Any.
type call func(t api.Table, l []api.Office, s api.Span) ([]api.Span, api.Errno)

func (s set) is(other set) bool { return slices.Equal(s.l, other.l) && s.why == other.why }

func (c counted) is(other counted) bool { return slices.Equal(c.l, other.l) && c.why == other.why }

func ask(ask call, t api.Table, l []api.Office, s api.Span) set {
	is, why := ask(t, l, s)
	return set{is, why}
}

func count(t api.Table, l []api.Office, s api.Span) counted {
	is, why := common.Count(t, l, s)
	return counted{is, why}
}

func first(t api.Table, l []api.Office, s api.Span, need int64) part {
	is, why := common.First(t, l, s, need)
	return part{api.Part{Span: is}, why}
}

func best(t api.Table, l []api.Office, s api.Span) part {
	is, why := common.Best(t, l, s)
	return part{is, why}
}

// open is how many of offices are, by asking each.
func open(t *testing.T, table api.Table, l []api.Office, at int64) int64 {
	t.Helper()
	var n int64
	for _, o := range l {
		is, why := hours.Is(table, o.Zone, o.Open, at)
		if why != api.OK {
			t.Fatalf("Is(%v, %d, %v, %d): %d", table, o.Zone, o.Open, at, why)
		}
		if is {
			n++
		}
	}
	return n
}

// counts is what Count must answer of what is right: between any two seconds at which an office opens or closes as many are open.
func counts(t *testing.T, table api.Table, l []api.Office, s api.Span) []api.Part {
	t.Helper()
	s = api.Span{From: max(s.From, minT), To: min(s.To, maxT+1)}
	if s.From >= s.To {
		return nil
	}
	edges := []int64{s.From, s.To}
	for _, o := range l {
		set, _ := hours.In(table, o.Zone, o.Open, s)
		for _, one := range set {
			edges = append(edges, one.From, one.To)
		}
	}
	slices.Sort(edges)
	edges = slices.Compact(edges)
	var parts []api.Part
	for n, to := range edges[1:] {
		val := open(t, table, l, edges[n])
		if last := len(parts) - 1; last >= 0 && parts[last].Val == val {
			parts[last].Span.To = to
			continue
		}
		parts = append(parts, api.Part{Span: api.Span{From: edges[n], To: to}, Val: val})
	}
	return parts
}

// most are those of parts in which so many are open, at least, put together.
func most(parts []api.Part, least int64) []api.Span {
	var l []api.Span
	for _, p := range parts {
		if p.Val < least {
			continue
		}
		if last := len(l) - 1; last >= 0 && l[last].To == p.Span.From {
			l[last].To = p.Span.To
			continue
		}
		l = append(l, p.Span)
	}
	return l
}

// atOnce is what First must answer, l being what All does.
func atOnce(l []api.Span, need int64) part {
	if need < 1 {
		return part{why: api.ErrRange}
	}
	for _, s := range l {
		if s.To-s.From >= need {
			return part{Part: api.Part{Span: api.Span{From: s.From, To: s.From + need}}}
		}
	}
	return part{why: api.ErrNone}
}

// greatest is what Best must answer, l being what Count does.
func greatest(l []api.Part) part {
	for most := int64(20); most >= 0; most-- {
		for _, p := range l {
			if p.Val == most {
				return part{Part: p}
			}
		}
	}
	return part{why: api.ErrNone}
}

func one[T any](random *rand.Rand, l ...T) T { return l[random.Intn(len(l))] }

// anyOpen is right, often at hours at which others are open, too.
func anyOpen(random *rand.Rand) []api.Open {
	var l []api.Open
	for weekday := range 7 {
		from := int64(0)
		for range random.Intn(3) {
			o := api.Open{Day: weekday, From: one(random, 0, from, 9*hour, random.Int63n(day)), To: one(random, day, 17*hour, from+1+random.Int63n(day))}
			if o.From >= from && o.From < o.To && o.To <= day {
				l = append(l, o)
				from = o.To
			}
		}
	}
	return l
}

// anyOffices are right, of zones of a table: few or many, some of them all week.
func anyOffices(random *rand.Rand, table api.Table) []api.Office {
	l := make([]api.Office, one(random, 1, 1, 2, 2, 3, 4, 20))
	alike := anyOpen(random)
	for n := range l {
		l[n] = api.Office{Zone: random.Intn(len(table.Zones)), Open: one(random, alike, alike, always(), anyOpen(random))}
	}
	return l
}

func always() []api.Open {
	var l []api.Open
	for weekday := range 7 {
		l = append(l, api.Open{Day: weekday, To: day})
	}
	return l
}

// anySpan is near a change of a zone.
func anySpan(random *rand.Rand, table api.Table, zone int) api.Span {
	from := one(random, sample.Infos(table, zone)...).Span.From - one(random, 0, 0, 1, random.Int63n(week))
	return api.Span{From: from, To: from + one(random, 1, 1+random.Int63n(day), 1+random.Int63n(2*week), 1+random.Int63n(2*week))}
}

// compare tells whether all calls answer what they must.
func compare(t *testing.T, table api.Table, l []api.Office, s api.Span, need int64) []api.Part {
	t.Helper()
	want := counts(t, table, l, s)
	together := most(want, int64(len(l)))
	for _, c := range []struct {
		what      string
		got, want any
	}{
		{"Count", count(table, l, s), counted{l: want}},
		{"All", ask(common.All, table, l, s), set{l: together}},
		{"Any", ask(common.Any, table, l, s), set{l: most(want, 1)}},
		{"First", first(table, l, s, need), atOnce(together, need)},
		{"Best", best(table, l, s), greatest(want)},
	} {
		if !same(c.got, c.want) {
			t.Fatalf("%s of %v in %v, of %v (%d): %v, not %v", c.what, l, table, s, need, c.got, c.want)
		}
	}
	return want
}

// same tells whether two answers are: lists that are nil, and lists without elements, are one.
func same(a, b any) bool {
	switch a := a.(type) {
	case set:
		return a.is(b.(set))
	case counted:
		return a.is(b.(counted))
	}
	return a == b
}

// Promises 56.1, 56.2 and 56.3: any offices in any spans.
func TestAny(t *testing.T) {
	random := rand.New(rand.NewSource(561))
	vals := map[int64]int{}
	for range 300 {
		table := sample.Table(random.Intn)
		for range 3 {
			l := anyOffices(random, table)
			s := anySpan(random, table, l[0].Zone)
			need := one(random, 1, 1, 2, 1+random.Int63n(day), hour, math.MaxInt64)
			if set, _ := common.All(table, l, s); len(set) > 0 && random.Intn(2) == 0 {
				last := set[len(set)-1]
				need = last.To - last.From + random.Int63n(2)
			}
			for _, p := range compare(t, table, l, s, need) {
				vals[p.Val]++
			}
		}
	}
	for _, val := range []int64{0, 1, 2, 3, 4, 20} {
		if vals[val] < 10 {
			t.Error(vals)
		}
	}
}

// Promise 56.3: at each second as many are open as Count says, and Count is of all seconds, each once.
func TestSeconds(t *testing.T) {
	random := rand.New(rand.NewSource(562))
	for range 20 {
		table := sample.Table(random.Intn)
		l := anyOffices(random, table)[:1]
		l = append(l, anyOffices(random, table)[0])
		s := anySpan(random, table, l[0].Zone)
		s.To = min(s.To, s.From+2*hour)
		parts, why := common.Count(table, l, s)
		if why != api.OK {
			t.Fatal(why)
		}
		place := 0
		for at := max(s.From, minT); at < min(s.To, maxT+1); at++ {
			for at >= parts[place].Span.To {
				place++
			}
			if p := parts[place]; p.Val != open(t, table, l, at) || at < p.Span.From {
				t.Fatalf("of %v in %v at %d: %v", l, table, at, p)
			}
		}
	}
}

// Promise 56.1: what Count tells is merged, and has all seconds of the span from MinT to MaxT, one part behind the other.
func TestMerged(t *testing.T) {
	random := rand.New(rand.NewSource(563))
	for range 300 {
		table := sample.Table(random.Intn)
		l := anyOffices(random, table)
		s := anySpan(random, table, l[0].Zone)
		is := count(table, l, s)
		next := max(s.From, minT)
		for _, p := range is.l {
			if p.Span.From != next || p.Val < 0 || p.Val > int64(len(l)) {
				t.Fatalf("of %v in %v, of %v: %v", l, table, s, is)
			}
			next = p.Span.To
		}
		if next != max(min(s.To, maxT+1), minT) && len(is.l) > 0 || !slices.Equal(mean.Merge(is.l), is.l) || is.why != api.OK {
			t.Fatalf("of %v in %v, of %v: %v", l, table, s, is)
		}
	}
}

// Promise 56.1: both ends of all seconds, and as long a span as may be.
func TestEnds(t *testing.T) {
	random := rand.New(rand.NewSource(564))
	table := sample.Two()
	for _, l := range [][]api.Office{{{Zone: 1, Open: always()}}, {{Open: anyOpen(random)}, {Zone: 1, Open: anyOpen(random)}}, {{}}, {{}, {Zone: 1, Open: always()}}} {
		for _, s := range []api.Span{
			{From: minT, To: minT + week}, {From: minT - 1, To: minT + 1}, {From: minT - day, To: minT}, {From: minT - week, To: minT + week}, {From: math.MinInt64, To: math.MinInt64 + week},
			{From: maxT - week, To: maxT + 1}, {From: maxT, To: maxT + 2}, {From: maxT + 1, To: maxT + 2}, {From: maxT - week, To: maxT + week}, {From: math.MaxInt64 - week, To: math.MaxInt64},
			{From: -5, To: long - 5}, {From: 5, To: 6},
		} {
			compare(t, table, l, s, hour)
		}
	}
}

// Promises 56.1 and 56.2: what is known.
func TestKnown(t *testing.T) {
	table := sample.Two()
	early := api.Office{Zone: 0, Open: []api.Open{{Day: 4, From: 9 * hour, To: 13 * hour}}}
	late := api.Office{Zone: 0, Open: []api.Open{{Day: 4, From: 13 * hour, To: 17 * hour}}}
	east := api.Office{Zone: 1, Open: []api.Open{{Day: 4, From: 5 * hour, To: 6 * hour}}}
	s := api.Span{To: day}
	both := []api.Office{early, late}
	if is := ask(common.All, table, both, s); !is.is(set{}) {
		t.Error(is)
	}
	if is := ask(common.Any, table, both, s); !is.is(set{l: []api.Span{{From: 7 * hour, To: 15 * hour}}}) {
		t.Error(is)
	}
	parts := []api.Part{{Span: api.Span{To: 7 * hour}}, {Span: api.Span{From: 7 * hour, To: 15 * hour}, Val: 1}, {Span: api.Span{From: 15 * hour, To: day}}}
	if is := count(table, both, s); !is.is(counted{l: parts}) {
		t.Error(is)
	}
	if is := best(table, both, s); is != (part{Part: parts[1]}) {
		t.Error(is)
	}
	if is := first(table, both, s, 1); is != (part{why: api.ErrNone}) {
		t.Error(is)
	}
	three := []api.Office{early, late, east}
	if is := best(table, three, s); is != (part{Part: api.Part{Span: api.Span{From: 10 * hour, To: 11 * hour}, Val: 2}}) {
		t.Error(is)
	}
	// The first span is too short, and only so much is told as is needed.
	two := []api.Office{{Zone: 0, Open: []api.Open{{Day: 4, From: 9 * hour, To: 10 * hour}, {Day: 4, From: 11 * hour, To: 14 * hour}}}}
	for need, want := range map[int64]part{
		hour:       {Part: api.Part{Span: api.Span{From: 7 * hour, To: 8 * hour}}},
		hour + 1:   {Part: api.Part{Span: api.Span{From: 9 * hour, To: 10*hour + 1}}},
		3 * hour:   {Part: api.Part{Span: api.Span{From: 9 * hour, To: 12 * hour}}},
		3*hour + 1: {why: api.ErrNone}, 0: {why: api.ErrRange}, -1: {why: api.ErrRange}, math.MinInt64: {why: api.ErrRange}, math.MaxInt64: {why: api.ErrNone},
	} {
		if is := first(table, two, s, need); is != want {
			t.Errorf("First of %d: %v, not %v", need, is, want)
		}
	}
	// Of several parts that are as great the first one is the best.
	if is := best(table, two, s); is != (part{Part: api.Part{Span: api.Span{From: 7 * hour, To: 8 * hour}, Val: 1}}) {
		t.Error(is)
	}
	if is := best(table, []api.Office{{}}, s); is != (part{Part: api.Part{Span: s}}) {
		t.Error(is)
	}
}

// Promises 56.1 and 56.2: the errors, and which one of several.
func TestWrong(t *testing.T) {
	table := sample.Two()
	fine, far, shut := api.Office{Zone: 1, Open: always()}, api.Office{Zone: 2, Open: always()}, api.Office{Open: []api.Open{{}}}
	gone := api.Office{Zone: -1, Open: []api.Open{{Day: 7, To: 1}}}
	good, none, wide := api.Span{To: day}, api.Span{From: 1}, api.Span{To: long + 1}
	for _, c := range []struct {
		l   []api.Office
		s   api.Span
		why api.Errno
	}{
		{nil, good, api.ErrForm}, {[]api.Office{}, none, api.ErrForm}, {slices.Repeat([]api.Office{fine}, 21), good, api.ErrForm}, {slices.Repeat([]api.Office{far}, 21), none, api.ErrForm},
		{[]api.Office{shut}, good, api.ErrForm}, {[]api.Office{fine, shut}, good, api.ErrForm}, {[]api.Office{far, shut}, none, api.ErrForm}, {[]api.Office{gone}, none, api.ErrForm}, {[]api.Office{far, fine, gone}, wide, api.ErrForm},
		{[]api.Office{far}, good, api.ErrNone}, {[]api.Office{far}, none, api.ErrNone}, {[]api.Office{far, fine}, wide, api.ErrNone}, {[]api.Office{{Zone: -1}}, good, api.ErrNone}, {[]api.Office{{Zone: math.MaxInt}}, good, api.ErrNone}, {[]api.Office{fine, far}, good, api.ErrNone},
		{[]api.Office{fine}, none, api.ErrRange}, {[]api.Office{fine}, wide, api.ErrRange}, {[]api.Office{fine, far}, none, api.ErrRange}, {[]api.Office{fine, far}, wide, api.ErrRange}, {[]api.Office{fine}, api.Span{From: math.MinInt64, To: math.MaxInt64}, api.ErrRange},
		{slices.Repeat([]api.Office{fine}, 20), good, api.OK}, {[]api.Office{{}}, api.Span{To: long}, api.OK},
	} {
		for _, is := range []set{ask(common.All, table, c.l, c.s), ask(common.Any, table, c.l, c.s)} {
			if is.why != c.why || len(is.l) != 0 && c.why != api.OK {
				t.Errorf("of %v, of %v: %v, not %d", c.l, c.s, is, c.why)
			}
		}
		if is := count(table, c.l, c.s); is.why != c.why || len(is.l) != 0 && c.why != api.OK {
			t.Errorf("Count of %v, of %v: %v, not %d", c.l, c.s, is, c.why)
		}
		if c.why == api.OK {
			continue
		}
		if is := best(table, c.l, c.s); is != (part{why: c.why}) {
			t.Errorf("Best of %v, of %v: %v, not %d", c.l, c.s, is, c.why)
		}
		for _, need := range []int64{math.MinInt64, 0, 1} {
			if is := first(table, c.l, c.s, need); is != (part{why: c.why}) {
				t.Errorf("First of %v, of %v: %v, not %d", c.l, c.s, is, c.why)
			}
		}
	}
	beyond := api.Span{From: maxT + 1, To: maxT + 5}
	if is := best(table, []api.Office{fine}, beyond); is != (part{why: api.ErrNone}) {
		t.Error(is)
	}
	if is := first(table, []api.Office{fine}, beyond, 1); is != (part{why: api.ErrNone}) {
		t.Error(is)
	}
}

// Promise 56.4: without one office nothing that All told is lost.
func TestWithoutOne(t *testing.T) {
	random := rand.New(rand.NewSource(565))
	for range 300 {
		table := sample.Table(random.Intn)
		l := anyOffices(random, table)
		if len(l) == 1 {
			continue
		}
		s := anySpan(random, table, l[0].Zone)
		out := random.Intn(len(l))
		all, fewer := ask(common.All, table, l, s), ask(common.All, table, slices.Delete(slices.Clone(l), out, out+1), s)
		if lost := spans.Less(all.l, fewer.l); len(lost) > 0 || all.why != api.OK || fewer.why != api.OK {
			t.Fatalf("of %v in %v, of %v: without %d %v, not %v", l, table, s, out, fewer, all)
		}
	}
}

// Promises 56.1 and 56.2: of a table that does not fit something is answered.
func TestUnfit(t *testing.T) {
	l := []api.Office{{Open: always()}, {Open: []api.Open{{From: 5, To: 9}}}}
	for _, table := range sample.Unfit() {
		for _, at := range sample.Far() {
			s := api.Span{From: max(at, math.MinInt64+long) - long, To: at}
			common.All(table, l, s)
			common.Any(table, l, s)
			common.Count(table, l, s)
			common.First(table, l, s, 5)
			common.Best(table, l, s)
		}
	}
}

// Promise 56.1: what is handed in is not changed, and what is told is told anew.
func TestOwn(t *testing.T) {
	table, s := sample.Two(), api.Span{To: week}
	l := []api.Office{{Zone: 1, Open: []api.Open{{Day: 1, From: hour, To: 2 * hour}}}}
	was := []api.Office{{Zone: 1, Open: slices.Clone(l[0].Open)}}
	for range 2 {
		all, any, parts := ask(common.All, table, l, s), ask(common.Any, table, l, s), count(table, l, s)
		if !all.is(any) || all.l[0] != parts.l[1].Span {
			t.Error(all, any, parts)
		}
		all.l[0].From, any.l[0].To, parts.l[1].Val = 0, 0, 7
	}
	if !reflect.DeepEqual(table, sample.Two()) || !reflect.DeepEqual(l, was) {
		t.Error(table, l)
	}
}

// Promise 56.1: as many offices as may be, of much that is open, for as long as may be.
func TestSoon(t *testing.T) {
	begin := time.Now()
	table := sample.Two()
	open := make([]api.Open, 100)
	for n := range open {
		open[n] = api.Open{Day: n * 7 / 100, From: int64(2 * n), To: int64(2*n + 1)}
	}
	l := slices.Repeat([]api.Office{{Zone: 1, Open: open}}, 20)
	for range 5 {
		if is := count(table, l, api.Span{To: long}); len(is.l) < 10000 {
			t.Fatal(len(is.l))
		}
		ask(common.All, table, l, api.Span{To: long})
	}
	if took := time.Since(begin); took > 20*time.Second {
		t.Error(took)
	}
}
