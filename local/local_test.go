package local_test

import (
	"math"
	"math/rand"
	"slices"
	"testing"

	"noontide/api"
	"noontide/info"
	"noontide/load"
	"noontide/local"
	"noontide/point"
	"noontide/sample"
)

const (
	hour  = 3600
	day   = 86400
	minT  = -1096193779200
	maxT  = 971890963199
	first = minT + 172800
	last  = maxT - 172800
)

// said is all that Of answers.
type said struct {
	x   api.Local
	why api.Errno
}

// seconds are those of a local time, by the words, and their infos.
func seconds(l []api.Info, at int64) ([]int64, []api.Info) {
	var times []int64
	var infos []api.Info
	for _, i := range l {
		if t := at - i.Value.Off; i.Span.From <= t && t < i.Span.To {
			times = append(times, t)
			infos = append(infos, i)
		}
	}
	return times, infos
}

// of is what Of must answer in a zone whose infos are l.
func of(l []api.Info, at int64) said {
	if at < first || at > last {
		return said{why: api.ErrRange}
	}
	_, infos := seconds(l, at)
	switch len(infos) {
	case 1:
		return said{x: api.Local{Kind: api.LocalOne, First: infos[0]}}
	case 2:
		return said{x: api.Local{Kind: api.LocalTwo, First: infos[0], Second: infos[1]}}
	}
	x := api.Local{Kind: api.LocalNone}
	for _, i := range l {
		if i.Span.To+i.Value.Off <= at {
			x.First = i
		}
	}
	for _, i := range slices.Backward(l) {
		if i.Span.From+i.Value.Off > at {
			x.Second = i
		}
	}
	return said{x: x}
}

// anyTimes are local times at, ahead of and behind those at which walls begin and end, between these, and where local times end.
func anyTimes(random *rand.Rand, l []api.Info) []int64 {
	times := append(sample.Far(), math.MinInt64, math.MaxInt64, first-1, first, first+1, last-1, last, last+1)
	for n, i := range l {
		for _, t := range []int64{i.Span.From + i.Value.Off, i.Span.To + i.Value.Off} {
			times = append(times, t-1, t, t+1, t+random.Int63n(2*day)-day)
		}
		if n > 0 {
			times = append(times, i.Span.From+(i.Value.Off+l[n-1].Value.Off)/2)
		}
	}
	return append(times, first+random.Int63n(last-first))
}

func compareOf(t *testing.T, table api.Table, zone int, at int64, want said) {
	t.Helper()
	if x, why := local.Of(table, zone, at); (said{x, why}) != want {
		t.Fatalf("Of of %d in %v at %d: %v, %d; not %v", zone, table, at, x, why, want)
	}
}

func compareSeconds(t *testing.T, table api.Table, zone int, at int64, want []int64, whyNot api.Errno) {
	t.Helper()
	if l, why := local.Seconds(table, zone, at); !slices.Equal(l, want) || why != whyNot {
		t.Fatalf("Seconds of %d in %v at %d: %v, %d; not %v, %d", zone, table, at, l, why, want, whyNot)
	}
}

// Promises 41.1 and 41.2: any tables that fit, at the ends of all walls, and between.
func TestOf(t *testing.T) {
	random := rand.New(rand.NewSource(41))
	kinds := map[int]int{}
	for range 300 {
		table := sample.Table(random.Intn)
		for zone := range table.Zones {
			l := sample.Infos(table, zone)
			for _, at := range anyTimes(random, l) {
				want := of(l, at)
				kinds[want.x.Kind]++
				compareOf(t, table, zone, at, want)
				times, _ := seconds(l, at)
				if want.why != api.OK {
					times = nil
				}
				compareSeconds(t, table, zone, at, times, want.why)
			}
		}
	}
	for kind := range 4 {
		if kinds[kind] < 1000 {
			t.Errorf("of kind %d there are %d", kind, kinds[kind])
		}
	}
}

// Promises 41.1 and 41.2: what is known, to the second.
func TestKnown(t *testing.T) {
	const spring, fall = 1710054000, 1730613600
	tests := []struct {
		zone          int
		l             int64
		kind          int
		first, second string
		seconds       []int64
	}{
		{1, spring - 5*hour - 1, api.LocalOne, "EST", "", []int64{spring - 1}},
		{1, spring - 5*hour, api.LocalNone, "EST", "EDT", nil},
		{1, spring - 4*hour - 1, api.LocalNone, "EST", "EDT", nil},
		{1, spring - 4*hour, api.LocalOne, "EDT", "", []int64{spring}},
		{1, fall - 5*hour - 1, api.LocalOne, "EDT", "", []int64{fall - hour - 1}},
		{1, fall - 5*hour, api.LocalTwo, "EDT", "EST", []int64{fall - hour, fall}},
		{1, fall - 4*hour - 1, api.LocalTwo, "EDT", "EST", []int64{fall - 1, fall + hour - 1}},
		{1, fall - 4*hour, api.LocalOne, "EST", "", []int64{fall + hour}},
		{0, -631152001, api.LocalOne, "X", "", []int64{-631155601}},
		{0, -631152000, api.LocalNone, "X", "Y", nil},
		{0, -631148401, api.LocalNone, "X", "Y", nil},
		{0, -631148400, api.LocalOne, "Y", "", []int64{-631155600}},
		{0, first, api.LocalOne, "X", "", []int64{first - hour}},
		{0, last, api.LocalOne, "Y", "", []int64{last - 2*hour}},
		{1, first, api.LocalOne, "EST", "", []int64{first + 5*hour}},
		{1, last, api.LocalOne, "EST", "", []int64{last + 5*hour}},
	}
	for _, x := range tests {
		got, why := local.Of(sample.Two(), x.zone, x.l)
		if got.Kind != x.kind || got.First.Value.Abbr != x.first || got.Second.Value.Abbr != x.second || why != api.OK {
			t.Errorf("Of of %d in %d: %v, %d; not %v", x.l, x.zone, got, why, x)
		}
		compareSeconds(t, sample.Two(), x.zone, x.l, x.seconds, api.OK)
	}
}

// Promises 41.1 and 41.2: that there is no such zone is told ahead of what is out of range.
func TestErrors(t *testing.T) {
	times := append(sample.Far(), math.MinInt64, math.MaxInt64, first-1, first, last, last+1)
	for _, zone := range []int{math.MinInt, -1, 0, 1, 2, math.MaxInt} {
		for _, l := range times {
			why := api.ErrRange
			if zone != 0 && zone != 1 {
				why = api.ErrNone
			} else if first <= l && l <= last {
				continue
			}
			compareOf(t, sample.Two(), zone, l, said{why: why})
			compareSeconds(t, sample.Two(), zone, l, nil, why)
		}
	}
	compareOf(t, api.Table{}, 0, 0, said{why: api.ErrNone})
	compareSeconds(t, api.Table{}, 0, 0, nil, api.ErrNone)
}

// Promise 41.3: each second is among those of its own local time.
func TestThereAndBack(t *testing.T) {
	random := rand.New(rand.NewSource(413))
	for range 200 {
		table := sample.Table(random.Intn)
		for zone := range table.Zones {
			for _, i := range sample.Infos(table, zone) {
				for _, at := range []int64{i.Span.From, i.Span.To - 1, i.Span.From + random.Int63n(i.Span.To-i.Span.From), max(i.Span.From, i.Span.To-random.Int63n(day))} {
					v, _ := point.Value(table, zone, at)
					if l := at + v.Off; l >= first && l <= last {
						if times, why := local.Seconds(table, zone, l); !slices.Contains(times, at) || why != api.OK || !slices.IsSorted(times) {
							t.Fatalf("Seconds of %d in %v at %d: %v, %d; without %d", zone, table, l, times, why, at)
						}
					}
				}
			}
		}
	}
}

// Promise 41.4: the two infos of a gap meet, and the offset grows by more than is between; those of two seconds meet, too, and it falls.
func TestAround(t *testing.T) {
	random := rand.New(rand.NewSource(414))
	for range 200 {
		table := sample.Table(random.Intn)
		for zone := range table.Zones {
			for _, at := range anyTimes(random, sample.Infos(table, zone)) {
				x, _ := local.Of(table, zone, at)
				grows := x.Second.Value.Off - x.First.Value.Off
				between := at - (x.First.Span.To + x.First.Value.Off)
				switch {
				case x.Kind == api.LocalNone && (x.First.Span.To != x.Second.Span.From || between < 0 || grows <= between),
					x.Kind == api.LocalTwo && (x.First.Span.To != x.Second.Span.From || grows >= 0):
					t.Fatalf("Of of %d in %v at %d: %v", zone, table, at, x)
				}
			}
		}
	}
}

// Promise 41.1: of infos that are closer to each other than those of a table, but whose walls are in order, the nearest ones are told.
func TestClose(t *testing.T) {
	random := rand.New(rand.NewSource(416))
	for range 100 {
		var l []api.Info
		from, off := int64(minT), int64(0)
		for to := -int64(50 * hour); from <= maxT; to += 100 + random.Int63n(3*hour) {
			if to > 50*hour {
				to = maxT + 1
			}
			l = append(l, api.Info{Span: api.Span{From: from, To: to}, Value: api.Value{Off: off}})
			from, off = to, off+random.Int63n(99)-49
		}
		find := func(at int64) (api.Info, api.Errno) { return has(l, at), api.OK }
		for _, at := range anyTimes(random, l) {
			if x, why := local.OfBy(find, at); (said{x, why}) != of(l, at) {
				t.Fatalf("Of of %v at %d: %v, %d; not %v", l, at, x, why, of(l, at))
			}
		}
	}
}

// has is the one of l that has a second.
func has(l []api.Info, at int64) api.Info {
	for _, i := range l {
		if i.Span.From <= at && at < i.Span.To {
			return i
		}
	}
	return api.Info{}
}

// Whoever finds the infos is asked for seconds that have one alone; what it tells is answered.
func TestFind(t *testing.T) {
	random := rand.New(rand.NewSource(415))
	for range 200 {
		table := sample.Table(random.Intn)
		l := sample.Infos(table, 0)
		find := func(at int64) (api.Info, api.Errno) {
			if at < minT || at > maxT {
				t.Fatal("asked for ", at)
			}
			return has(l, at), api.OK
		}
		for _, at := range anyTimes(random, l) {
			if x, why := local.OfBy(find, at); (said{x, why}) != of(l, at) {
				t.Fatalf("Of of %v at %d: %v, %d; not %v", table, at, x, why, of(l, at))
			}
			if i, why := local.By(table, 0)(max(minT, min(at, maxT))); why != api.OK || !slices.Contains(l, i) {
				t.Fatalf("By of %v at %d: %v, %d", table, at, i, why)
			}
		}
	}
	if i, why := local.By(sample.Two(), 2)(0); i != (api.Info{}) || why != api.ErrNone {
		t.Error(i, why)
	}
}

// Near tells the same in any order, and asks little of what it was told already; an error is not kept.
func TestNear(t *testing.T) {
	random := rand.New(rand.NewSource(416))
	for range 300 {
		l := sample.Infos(sample.Table(random.Intn), 0)
		asked := 0
		find := func(at int64) (api.Info, api.Errno) {
			asked++
			if i := has(l, at); i != (api.Info{}) {
				return i, api.OK
			}
			return api.Info{}, api.ErrRange
		}
		near := local.Near(find)
		times := append(anyTimes(random, l), 0, 0, minT-1, minT-1)
		random.Shuffle(len(times), func(a, b int) { times[a], times[b] = times[b], times[a] })
		for _, at := range times {
			want, whyNot := find(at)
			if i, why := near(at); i != want || why != whyNot {
				t.Fatalf("of %v at %d: %v, %d; not %v, %d", l, at, i, why, want, whyNot)
			}
		}
		asked = 0
		near = local.Near(find)
		for n := range 4 {
			near(l[(len(l)-1)*n/3].Span.From)
		}
		once := asked
		for n := range 4 {
			near(l[(len(l)-1)*n/3].Span.To - 1)
		}
		if asked != once {
			t.Fatalf("of four infos that were found last it asks %d times more", asked-once)
		}
		near(maxT + 1)
		near(maxT + 1)
		if asked != once+2 {
			t.Fatalf("it asks %d times for what is not there", asked-once)
		}
	}
}

// Whatever infos are found, there is an answer: such as go round, or on and on, in which a local time has many seconds, or behind which there are none.
func TestWrongFinds(t *testing.T) {
	still := func(at int64) (api.Info, api.Errno) { return api.Info{Span: api.Span{From: 5, To: 9}}, api.OK }
	back := func(at int64) (api.Info, api.Errno) {
		return api.Info{Span: api.Span{From: at - 2, To: at - 1}}, api.OK
	}
	none := func(at int64) (api.Info, api.Errno) { return api.Info{}, api.ErrForm }
	many := func(at int64) (api.Info, api.Errno) {
		return api.Info{Span: api.Span{From: at, To: at + 500}, Value: api.Value{Off: -at}}, api.OK
	}
	for _, find := range []local.Find{still, back, many} {
		for _, l := range []int64{first, -5, 0, 5, 9, last} {
			if _, why := local.OfBy(find, l); why != api.OK {
				t.Error(l, why)
			}
		}
	}
	for _, l := range []int64{math.MinInt64, 0, math.MaxInt64} {
		if x, why := local.OfBy(none, l); x != (api.Local{}) || why != api.ErrForm {
			t.Error(l, x, why)
		}
	}
	once := func(at int64) (api.Info, api.Errno) {
		if at >= 0 {
			return api.Info{Span: api.Span{From: at, To: maxT}, Value: api.Value{Off: hour}}, api.ErrForm
		}
		return api.Info{Span: api.Span{From: minT, To: 0}}, api.OK
	}
	if x, why := local.OfBy(once, 10); x.Kind != api.LocalNone || x.First.Span.To != 0 || x.Second != (api.Info{}) || why != api.OK {
		t.Error(x, why)
	}
}

// Of a table that does not fit there is an answer, whatever it is.
func TestTablesThatDoNotFit(t *testing.T) {
	for _, table := range sample.Unfit() {
		for _, l := range append(sample.Far(), first, last, -631152000, 1893456000) {
			if x, why := local.Of(table, 0, l); why != api.OK && x != (api.Local{}) {
				t.Errorf("Of of %v at %d: %v, %d", table, l, x, why)
			}
			if times, why := local.Seconds(table, 0, l); len(times) > 2 || why != api.OK && len(times) > 0 {
				t.Errorf("Seconds of %v at %d: %v, %d", table, l, times, why)
			}
		}
		compareOf(t, table, 1, 0, said{why: api.ErrNone})
	}
}

// The example.
func TestExample(t *testing.T) {
	table, fault := load.Source("Rule US 2007 max - Mar Sun>=8 2:00 1:00 D\nRule US 2007 max - Nov Sun>=1 2:00 0 S\nZone E -5:00 US E%sT")
	if fault.Err != api.OK {
		t.Fatal(fault)
	}
	standard, saving := api.Value{Off: -5 * hour, Abbr: "EST"}, api.Value{Off: -4 * hour, Save: hour, Abbr: "EDT"}
	if x, why := local.Of(table, 0, 1710037800); why != api.OK || x.Kind != api.LocalNone || x.First.Value != standard || x.Second.Value != saving {
		t.Error(x, why)
	}
	x, why := local.Of(table, 0, 1730597400)
	if why != api.OK || x.Kind != api.LocalTwo || x.First.Value != saving || x.Second.Value != standard {
		t.Error(x, why)
	}
	if i, why := info.At(table, 0, 1730597400+4*hour); why != api.OK || x.First != i {
		t.Error(x, i, why)
	}
}
