package lazy_test

import (
	"cmp"
	"math"
	"math/rand"
	"reflect"
	"slices"
	"strconv"
	"strings"
	"testing"

	"noontide/api"
	"noontide/info"
	"noontide/lazy"
	"noontide/load"
	"noontide/sample"
	"noontide/seam"
	"noontide/window"
)

const (
	hour     = 3600
	minT     = -1096193779200
	maxT     = 971890963199
	mostKept = 65536
)

// plain is a lazy table by the words: of each zone what is kept stands in the order in which it was asked for.
type plain struct {
	table       api.Table
	room        int
	kept        map[int][]api.Info
	found, made int
}

func (p *plain) info(zone int, at int64) (api.Info, api.Errno) {
	i, why := info.At(p.table, zone, at)
	switch {
	case why != api.OK:
		return api.Info{}, why
	case slices.Contains(p.kept[zone], i):
		p.found++
		return i, why
	}
	p.made++
	if len(p.kept[zone]) == p.room {
		p.kept[zone] = nil
	}
	p.kept[zone] = append(p.kept[zone], i)
	return i, why
}

func (p *plain) warm(zone int, s api.Span, most int) (int, api.Errno) {
	l, why := window.In(p.table, zone, s, most)
	for _, i := range l {
		p.info(zone, i.Span.From)
	}
	return len(l), why
}

func (p *plain) list(zone int) []api.Info {
	return slices.SortedFunc(slices.Values(p.kept[zone]), func(a, b api.Info) int { return cmp.Compare(a.Span.From, b.Span.From) })
}

// made are a lazy table and a plain one.
func made(t *testing.T, table api.Table, room int) (*lazy.Lazy, *plain) {
	t.Helper()
	z, why := lazy.New(table, room)
	if z == nil || why != api.OK {
		t.Fatalf("New of %v, %d: %v, %d", table, room, z, why)
	}
	return z, &plain{table: table, room: room, kept: map[int][]api.Info{}}
}

func compare(t *testing.T, z *lazy.Lazy, p *plain) {
	t.Helper()
	if found, made := z.Counts(); found != p.found || made != p.made {
		t.Fatalf("Counts: %d, %d; not %d, %d", found, made, p.found, p.made)
	}
	for zone := -1; zone <= len(p.table.Zones); zone++ {
		kept := z.Kept(zone)
		if !slices.Equal(kept, p.list(zone)) {
			t.Fatalf("Kept of %d in %v: %v; not %v", zone, p.table, kept, p.list(zone))
		}
		if !seam.Sound(kept) || len(kept) > p.room {
			t.Fatalf("Kept of %d in %v: %v", zone, p.table, kept)
		}
	}
	for _, zone := range []int{math.MinInt, math.MaxInt} {
		if kept := z.Kept(zone); len(kept) > 0 {
			t.Fatalf("Kept of %d: %v", zone, kept)
		}
	}
}

// someSeconds are such at which something changes, some around these, and far ones.
func someSeconds(random *rand.Rand, table api.Table) []int64 {
	times := sample.Far()
	for zone := range table.Zones {
		l, _ := window.In(table, zone, api.Span{From: minT, To: maxT + 1}, 40)
		for _, i := range l {
			times = append(times, i.Span.From-1, i.Span.From, i.Span.From+random.Int63n(i.Span.To-i.Span.From), i.Span.To)
		}
	}
	return times
}

// someZone is seldom one that is not there.
func someZone(random *rand.Rand, table api.Table) int {
	if random.Intn(8) == 0 {
		return []int{math.MinInt, -1, len(table.Zones), math.MaxInt}[random.Intn(4)]
	}
	return random.Intn(len(table.Zones))
}

// ask asks one thing of both.
func ask(t *testing.T, random *rand.Rand, times []int64, z *lazy.Lazy, p *plain) {
	t.Helper()
	zone, at := someZone(random, p.table), times[random.Intn(len(times))]
	if random.Intn(5) == 0 {
		s := api.Span{From: at, To: times[random.Intn(len(times))]}
		most := []int{-1, 0, 1, 2, 3, 9, math.MaxInt}[random.Intn(7)]
		want, whyNot := p.warm(zone, s, most)
		if n, why := z.Warm(zone, s, most); n != want || why != whyNot {
			t.Fatalf("Warm of %d in %v, %v, %d: %d, %d; not %d, %d", zone, p.table, s, most, n, why, want, whyNot)
		}
		return
	}
	want, whyNot := p.info(zone, at)
	got, why := z.Info(zone, at)
	if got != want || why != whyNot {
		t.Fatalf("Info of %d in %v at %d: %v, %d; not %v, %d", zone, p.table, at, got, why, want, whyNot)
	}
	if why == api.OK && !slices.Contains(z.Kept(zone), got) {
		t.Fatalf("%v is not among %v", got, z.Kept(zone))
	}
}

// Promises 40.2, 40.3, 40.5 and 40.6: any tables that fit, asked for anything, with little room or much.
func TestAny(t *testing.T) {
	random := rand.New(rand.NewSource(40))
	found, letGo := 0, 0
	for range 1000 {
		table := sample.Table(random.Intn)
		z, p := made(t, table, []int{1, 2, 3, 5, 9, mostKept}[random.Intn(6)])
		times := someSeconds(random, table)
		compare(t, z, p)
		for range 40 {
			ask(t, random, times, z, p)
			compare(t, z, p)
		}
		found += p.found
		letGo += p.made
		for zone := range table.Zones {
			letGo -= len(p.kept[zone])
		}
		if !reflect.DeepEqual(z.Table(), table) {
			t.Fatalf("Table of %v: %v", table, z.Table())
		}
	}
	if found < 5000 || letGo < 5000 {
		t.Errorf("%d are found, %d let go", found, letGo)
	}
}

// wrong are tables that do not fit.
func wrong() map[api.Errno]api.Table {
	crowded := sample.US()
	crowded[1].Month, crowded[1].On.Day = 3, 9
	return map[api.Errno]api.Table{
		api.ErrForm:  {Zones: []api.Zone{{Name: "A"}}},
		api.ErrTwice: {Zones: slices.Repeat(sample.Two().Zones[:1], 2)},
		api.ErrNone:  {Zones: sample.Two().Zones},
		api.ErrClose: {Rules: crowded},
		api.ErrFull:  {Links: slices.Repeat([]api.Link{{Target: "A", Name: "B"}}, 1025)},
		api.ErrLoop:  {Links: []api.Link{{Target: "B", Name: "A"}, {Target: "A", Name: "B"}}},
	}
}

// Promise 40.1: rooms at, and beyond, the ends of those that may be; that is told ahead of what is wrong with the table.
func TestNew(t *testing.T) {
	for _, room := range []int{math.MinInt, -1, 0, mostKept + 1, math.MaxInt} {
		for _, table := range append([]api.Table{{}, sample.Two()}, wrong()[api.ErrForm], wrong()[api.ErrClose]) {
			if z, why := lazy.New(table, room); z != nil || why != api.ErrRange {
				t.Errorf("New of %v, %d: %v, %d", table, room, z, why)
			}
		}
	}
	for _, room := range []int{1, 2, mostKept - 1, mostKept} {
		for _, table := range []api.Table{{}, sample.Two()} {
			z, p := made(t, table, room)
			compare(t, z, p)
		}
		for whyNot, table := range wrong() {
			if z, why := lazy.New(table, room); z != nil || why != whyNot {
				t.Errorf("New of %v, %d: %v, %d; not %d", table, room, z, why, whyNot)
			}
		}
	}
}

// Promise 40.2: of a table without zones nothing is kept, but it is one.
func TestNoZones(t *testing.T) {
	table := api.Table{Rules: sample.US()}
	z, p := made(t, table, 1)
	for _, zone := range []int{-1, 0, 1} {
		if i, why := z.Info(zone, 0); i != (api.Info{}) || why != api.ErrNone {
			t.Errorf("Info of %d: %v, %d", zone, i, why)
		}
		if n, why := z.Warm(zone, api.Span{}, 0); n != 0 || why != api.ErrNone {
			t.Errorf("Warm of %d: %d, %d", zone, n, why)
		}
	}
	compare(t, z, p)
	if !reflect.DeepEqual(z.Table(), table) {
		t.Error(z.Table())
	}
}

// Promises 40.2 and 40.3: what may not be asked is counted nowhere, and lets nothing go; that there is no such zone is told first.
func TestWrong(t *testing.T) {
	z, p := made(t, sample.Two(), 1)
	z.Info(1, 0)
	p.info(1, 0)
	for _, zone := range []int{math.MinInt, -1, 2, math.MaxInt, 0, 1} {
		whyNot := api.ErrRange
		if zone != 0 && zone != 1 {
			whyNot = api.ErrNone
		}
		for _, at := range []int64{math.MinInt64, minT - 1, maxT + 1, math.MaxInt64} {
			if i, why := z.Info(zone, at); i != (api.Info{}) || why != whyNot {
				t.Errorf("Info of %d at %d: %v, %d", zone, at, i, why)
			}
		}
		for _, s := range []api.Span{{}, {From: 1}, {From: math.MaxInt64, To: math.MinInt64}} {
			if n, why := z.Warm(zone, s, 1); n != 0 || why != whyNot {
				t.Errorf("Warm of %d in %v: %d, %d", zone, s, n, why)
			}
		}
		for _, most := range []int{math.MinInt, -1, 0} {
			if n, why := z.Warm(zone, api.Span{To: 9}, most); n != 0 || why != whyNot {
				t.Errorf("Warm of %d for %d: %d, %d", zone, most, n, why)
			}
		}
	}
	compare(t, z, p)
}

// Promises 40.2 and 40.6: the room is each zone's own; where there is none all that the zone has is let go, and nothing of another one.
func TestRoom(t *testing.T) {
	z, p := made(t, sample.Two(), 3)
	steps := []struct {
		zone       int
		at         int64
		a, e       int
		found, add int
	}{
		{1, 1719792000, 0, 1, 0, 1},
		{1, 1719792000, 0, 1, 1, 0},
		{1, 1719792001, 0, 1, 1, 0},
		{1, 1710054000, 0, 1, 1, 0},
		{1, 1730613599, 0, 1, 1, 0},
		{1, 1730613600, 0, 2, 0, 1},
		{0, 0, 1, 2, 0, 1},
		{1, 1710053999, 1, 3, 0, 1},
		{1, 1719792000, 1, 3, 1, 0},
		{0, minT, 2, 3, 0, 1},
		{1, 0, 2, 1, 0, 1},
		{1, 1719792000, 2, 2, 0, 1},
		{1, minT, 2, 2, 1, 0},
		{0, maxT, 2, 2, 1, 0},
	}
	for i, x := range steps {
		found, made := z.Counts()
		z.Info(x.zone, x.at)
		p.info(x.zone, x.at)
		compare(t, z, p)
		if len(z.Kept(0)) != x.a || len(z.Kept(1)) != x.e {
			t.Errorf("step %d: %v, and %v", i, z.Kept(0), z.Kept(1))
		}
		if f, m := z.Counts(); f != found+x.found || m != made+x.add {
			t.Errorf("step %d: Counts are %d, %d", i, f, m)
		}
	}
}

// Promise 40.3: what comes first in a span is asked for first; where there is less room than infos, the last ones are left.
func TestWarm(t *testing.T) {
	years := api.Span{From: 1704067200, To: 1735689600}
	whole := api.Span{From: math.MinInt64, To: math.MaxInt64}
	tests := []struct {
		zone        int
		s           api.Span
		most        int
		n           int
		kept        int
		found, made int
	}{
		{1, years, 9, 3, 3, 0, 3},
		{1, years, 9, 3, 3, 3, 3},
		{1, years, 1, 1, 3, 4, 3},
		{1, api.Span{From: 1730613600, To: 1767225600}, 9, 3, 5, 5, 5},
		{1, whole, 9, 9, 4, 5, 14},
		{0, whole, math.MaxInt, 2, 2, 5, 16},
		{0, api.Span{From: maxT + 1, To: math.MaxInt64}, 1, 0, 2, 5, 16},
		{0, api.Span{From: math.MinInt64, To: minT}, 1, 0, 2, 5, 16},
		{0, api.Span{From: maxT, To: math.MaxInt64}, 1, 1, 2, 6, 16},
	}
	z, p := made(t, sample.Two(), 5)
	for i, x := range tests {
		n, why := z.Warm(x.zone, x.s, x.most)
		p.warm(x.zone, x.s, x.most)
		compare(t, z, p)
		found, made := z.Counts()
		if n != x.n || why != api.OK || len(z.Kept(x.zone)) != x.kept || found != x.found || made != x.made {
			t.Errorf("step %d: %d, %d, %v, %d, %d", i, n, why, z.Kept(x.zone), found, made)
		}
	}
}

// Promise 40.3: more infos than there is ever room for.
func TestWarmMany(t *testing.T) {
	const many = 2*(32767-2007+1) + 1
	z, p := made(t, sample.Two(), 20000)
	n, why := z.Warm(1, api.Span{From: minT, To: maxT + 1}, math.MaxInt)
	kept := z.Kept(1)
	if n != many || why != api.OK || len(kept) != many%20000 || kept[len(kept)-1].Span.To != maxT+1 {
		t.Error(n, why, len(kept))
	}
	if found, made := z.Counts(); found != 0 || made != many {
		t.Error(found, made)
	}
	if _, why := z.Warm(2, api.Span{}, 0); why != api.ErrNone || len(z.Kept(0)) != 0 {
		t.Error(why)
	}
	if !reflect.DeepEqual(z.Table(), p.table) {
		t.Error("it is another table")
	}
}

// Promise 40.4: there is nothing in a nil one.
func TestNil(t *testing.T) {
	var z *lazy.Lazy
	for _, zone := range []int{math.MinInt, -1, 0, 1, math.MaxInt} {
		for _, at := range sample.Far() {
			if i, why := z.Info(zone, at); i != (api.Info{}) || why != api.ErrNone {
				t.Error(i, why)
			}
			for _, most := range []int{-1, 0, 1} {
				if n, why := z.Warm(zone, api.Span{From: at, To: maxT}, most); n != 0 || why != api.ErrNone {
					t.Error(n, why)
				}
			}
		}
		if l := z.Kept(zone); len(l) > 0 {
			t.Error(l)
		}
	}
	if found, made := z.Counts(); found != 0 || made != 0 {
		t.Error(found, made)
	}
	if table := z.Table(); len(table.Rules)+len(table.Zones)+len(table.Links) > 0 {
		t.Error(table)
	}
}

// full has something in each list.
func full() api.Table {
	table := sample.Two()
	table.Links = []api.Link{{Target: "A", Name: "L"}}
	return table
}

// spoil changes all of a table that a list of it has.
func spoil(table api.Table) {
	for i := range table.Rules {
		table.Rules[i].Save = 1800
	}
	for i := range table.Zones {
		for k := range table.Zones[i].Eras {
			table.Zones[i].Eras[k].Off = 60
		}
		table.Zones[i].Name = "Z"
	}
	for i := range table.Links {
		table.Links[i].Name = "Z"
	}
}

// Rules: the table that was handed in, one that was told, and a list that was told are not what is kept.
func TestNothingShared(t *testing.T) {
	given := full()
	z, _ := made(t, given, 5)
	if !reflect.DeepEqual(given, full()) {
		t.Error("the table is changed")
	}
	spoil(given)
	spoil(z.Table())
	if table := z.Table(); !reflect.DeepEqual(table, full()) {
		t.Error(table)
	}
	for zone := range given.Zones {
		want, _ := info.At(full(), zone, 1719792000)
		if i, why := z.Info(zone, 1719792000); i != want || why != api.OK {
			t.Error(i, why)
		}
		z.Kept(zone)[0] = api.Info{}
		if kept := z.Kept(zone); !slices.Equal(kept, []api.Info{want}) {
			t.Error(kept)
		}
	}
}

// Promise 40.1: of a table that was taken already a lazy one is made, even if what is written of it is too long; it is as if New had made it.
func TestTaken(t *testing.T) {
	var src strings.Builder
	for n := 0; src.Len() < api.MaxSource-5000; n++ {
		src.WriteString("Z A" + strconv.Itoa(n) + " 1 - X 1\n")
		for year := 2; year < api.MaxEras; year++ {
			src.WriteString("1 - X " + strconv.Itoa(year) + "\n")
		}
		src.WriteString("2 - X\n")
	}
	table, fault := load.Source(src.String())
	if z, why := lazy.New(table, 1); fault.Err != api.OK || z != nil || why != api.ErrLong {
		t.Fatal(fault, why)
	}
	for _, given := range []api.Table{table, full(), {}} {
		z, p := lazy.Taken(given, 2), &plain{table: given, room: 2, kept: map[int][]api.Info{}}
		for range 2 {
			for _, at := range []int64{0, minT, maxT, minT} {
				want, whyNot := p.info(0, at)
				if i, why := z.Info(0, at); i != want || why != whyNot {
					t.Errorf("Info at %d: %v, %d; not %v", at, i, why, want)
				}
				if !slices.Equal(z.Kept(0), p.list(0)) {
					t.Errorf("Kept: %v; not %v", z.Kept(0), p.list(0))
				}
			}
		}
		if !reflect.DeepEqual(z.Table(), given) {
			t.Error("it is another table")
		}
	}
	given := full()
	z := lazy.Taken(given, 2)
	spoil(given)
	if table := z.Table(); !reflect.DeepEqual(table, full()) {
		t.Error(table)
	}
}

// Two lazy tables share nothing.
func TestTwo(t *testing.T) {
	a, _ := made(t, sample.Two(), 1)
	b, p := made(t, sample.Two(), 1)
	a.Info(0, 0)
	compare(t, b, p)
}

// The example.
func TestExample(t *testing.T) {
	z, _ := made(t, sample.Two(), 1)
	for range 2 {
		if i, why := z.Info(0, 0); i.Value != (api.Value{Off: 2 * hour, Abbr: "Y"}) || why != api.OK {
			t.Error(i, why)
		}
	}
	if found, made := z.Counts(); found != 1 || made != 1 {
		t.Error(found, made)
	}
}
