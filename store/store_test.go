package store_test

import (
	"cmp"
	"math"
	"math/rand"
	"slices"
	"testing"

	"noontide/api"
	"noontide/store"
)

const mostKept = 65536

// edges are seconds at which the spans of these tests begin and end: a few, and both ends of the numbers.
func edges() []int64 {
	return []int64{math.MinInt64, math.MinInt64 + 1, -3, -2, -1, 0, 1, 2, 3, 4, 5, 6, math.MaxInt64 - 1, math.MaxInt64}
}

func of(from, to int64, abbr string) api.Info {
	return api.Info{Span: api.Span{From: from, To: to}, Value: api.Value{Abbr: abbr}}
}

func some(random *rand.Rand) api.Info {
	e := edges()
	return of(e[random.Intn(len(e))], e[random.Intn(len(e))], []string{"X", "Y"}[random.Intn(2)])
}

// plain is a store by the words: what is kept stands in no order.
type plain struct {
	room int
	kept []api.Info
}

func (p *plain) put(i api.Info) api.Errno {
	meets := func(k api.Info) bool { return max(k.Span.From, i.Span.From) < min(k.Span.To, i.Span.To) }
	switch {
	case i.Span.From >= i.Span.To:
		return api.ErrForm
	case slices.Contains(p.kept, i):
		return api.ErrTwice
	case slices.ContainsFunc(p.kept, meets):
		return api.ErrState
	case len(p.kept) == p.room:
		return api.ErrFull
	}
	p.kept = append(p.kept, i)
	return api.OK
}

func (p *plain) drop(t int64) api.Errno {
	left := slices.DeleteFunc(slices.Clone(p.kept), func(k api.Info) bool { return k.Span.From <= t && t < k.Span.To })
	if len(left) == len(p.kept) {
		return api.ErrNone
	}
	p.kept = left
	return api.OK
}

func (p *plain) find(t int64) (found api.Info, is bool) {
	for _, k := range p.kept {
		if k.Span.From <= t && t < k.Span.To {
			return k, true
		}
	}
	return found, false
}

func (p *plain) near(t int64) (ahead, behind api.Info, a, b bool) {
	for _, k := range p.kept {
		if k.Span.To <= t && (!a || k.Span.To > ahead.Span.To) {
			ahead, a = k, true
		}
		if k.Span.From > t && (!b || k.Span.From < behind.Span.From) {
			behind, b = k, true
		}
	}
	return ahead, behind, a, b
}

func (p *plain) list() []api.Info {
	return slices.SortedFunc(slices.Values(p.kept), func(a, b api.Info) int { return cmp.Compare(a.Span.From, b.Span.From) })
}

func made(t *testing.T, room int) *store.Store {
	t.Helper()
	s, why := store.New(room)
	if s == nil || why != api.OK {
		t.Fatalf("New of %d: %v, %d", room, s, why)
	}
	return s
}

func compare(t *testing.T, s *store.Store, p *plain) {
	t.Helper()
	if l := s.List(); !slices.Equal(l, p.list()) || s.Len() != len(p.kept) {
		t.Fatalf("List: %v, Len: %d; not %v", l, s.Len(), p.list())
	}
	for _, at := range edges() {
		want, wantIs := p.find(at)
		if got, is := s.Find(at); got != want || is != wantIs {
			t.Fatalf("Find of %d in %v: %v, %t; not %v", at, s.List(), got, is, want)
		}
		wantA, wantB, isA, isB := p.near(at)
		if ahead, behind, a, b := s.Near(at); ahead != wantA || behind != wantB || a != isA || b != isB {
			t.Fatalf("Near of %d in %v: %v, %v, %t, %t; not %v, %v", at, s.List(), ahead, behind, a, b, wantA, wantB)
		}
	}
}

// Promise 38.1: rooms at, and beyond, the ends of those that may be; a store has nothing in it.
func TestNew(t *testing.T) {
	for _, room := range []int{math.MinInt, -1, 0, mostKept + 1, math.MaxInt} {
		if s, why := store.New(room); s != nil || why != api.ErrRange {
			t.Errorf("New of %d: %v, %d", room, s, why)
		}
	}
	for _, room := range []int{1, 2, mostKept - 1, mostKept} {
		compare(t, made(t, room), &plain{room: room})
	}
}

// Promises 38.2, 38.3 and 38.5: anything put and dropped, in any order; what is asked is asked at each edge.
func TestAny(t *testing.T) {
	random := rand.New(rand.NewSource(38))
	told := map[api.Errno]int{}
	for range 1500 {
		room := 1 + random.Intn(6)
		s, p := made(t, room), &plain{room: room}
		for range 40 {
			if random.Intn(4) > 0 {
				i := some(random)
				if len(p.kept) > 0 && random.Intn(6) == 0 {
					i = p.kept[random.Intn(len(p.kept))]
				}
				want := p.put(i)
				if why := s.Put(i); why != want {
					t.Fatalf("Put of %v to %v: %d; not %d", i, s.List(), why, want)
				}
				told[want]++
			} else {
				at := edges()[random.Intn(len(edges()))]
				want := p.drop(at)
				if why := s.Drop(at); why != want {
					t.Fatalf("Drop of %d of %v: %d; not %d", at, s.List(), why, want)
				}
			}
			compare(t, s, p)
		}
	}
	for _, why := range []api.Errno{api.OK, api.ErrForm, api.ErrTwice, api.ErrState, api.ErrFull} {
		if told[why] < 500 {
			t.Errorf("%d is told %d times", why, told[why])
		}
	}
}

// Promise 38.2: what is told first, of a store that is full, and of one that is not.
func TestWhichError(t *testing.T) {
	a := api.Info{Span: api.Span{From: 0, To: 5}, Value: api.Value{Off: 1, Save: 2, Abbr: "X"}}
	for _, room := range []int{1, 2} {
		s := made(t, room)
		s.Put(a)
		far := api.ErrFull
		if room == 2 {
			far = api.OK
		}
		tests := []struct {
			i    api.Info
			want api.Errno
		}{
			{api.Info{}, api.ErrForm},
			{api.Info{Span: api.Span{From: 5, To: 0}, Value: a.Value}, api.ErrForm},
			{api.Info{Span: api.Span{From: 3, To: 3}, Value: a.Value}, api.ErrForm},
			{a, api.ErrTwice},
			{api.Info{Span: a.Span, Value: api.Value{Off: 2, Save: 2, Abbr: "X"}}, api.ErrState},
			{api.Info{Span: a.Span, Value: api.Value{Off: 1, Save: 1, Abbr: "X"}}, api.ErrState},
			{api.Info{Span: a.Span, Value: api.Value{Off: 1, Save: 2, Abbr: "Y"}}, api.ErrState},
			{api.Info{Span: api.Span{From: 0, To: 4}, Value: a.Value}, api.ErrState},
			{api.Info{Span: api.Span{From: 0, To: 6}, Value: a.Value}, api.ErrState},
			{api.Info{Span: api.Span{From: -1, To: 1}, Value: a.Value}, api.ErrState},
			{api.Info{Span: api.Span{From: 4, To: 9}, Value: a.Value}, api.ErrState},
			{api.Info{Span: api.Span{From: -9, To: 9}, Value: a.Value}, api.ErrState},
			{api.Info{Span: api.Span{From: math.MinInt64, To: math.MaxInt64}}, api.ErrState},
			{api.Info{Span: api.Span{From: 5, To: 9}, Value: a.Value}, far},
		}
		for _, x := range tests {
			if why := s.Put(x.i); why != x.want {
				t.Errorf("Put of %v to %v: %d; not %d", x.i, s.List(), why, x.want)
			}
		}
	}
}

// Promise 38.2: where one was dropped there is room again, for what met it, too.
func TestDrop(t *testing.T) {
	s := made(t, 2)
	for _, i := range []api.Info{of(0, 5, "X"), of(5, 9, "X")} {
		if why := s.Put(i); why != api.OK {
			t.Fatal(why)
		}
	}
	for _, at := range []int64{-1, 9, math.MinInt64, math.MaxInt64} {
		if why := s.Drop(at); why != api.ErrNone || s.Len() != 2 {
			t.Errorf("Drop of %d: %d", at, why)
		}
	}
	if why := s.Drop(4); why != api.OK {
		t.Error(why)
	}
	if why := s.Drop(4); why != api.ErrNone {
		t.Error(why)
	}
	if why := s.Put(of(-3, 3, "Y")); why != api.OK || !slices.Equal(s.List(), []api.Info{of(-3, 3, "Y"), of(5, 9, "X")}) {
		t.Error(why, s.List())
	}
}

// Promise 38.4: there is nothing in a nil store, and nothing is put there.
func TestNil(t *testing.T) {
	var s *store.Store
	for _, i := range []api.Info{{}, of(0, 5, "X")} {
		if why := s.Put(i); why != api.ErrNone {
			t.Errorf("Put of %v: %d", i, why)
		}
	}
	for _, at := range edges() {
		if why := s.Drop(at); why != api.ErrNone {
			t.Errorf("Drop of %d: %d", at, why)
		}
	}
	compare(t, s, &plain{})
}

// Promise 38.6: the order in which it was put, and what was there in the meantime, have no part.
func TestOrder(t *testing.T) {
	random := rand.New(rand.NewSource(386))
	for range 500 {
		var want []api.Info
		for at := int64(-20); at < 20; {
			from := at + random.Int63n(4)
			at = from + 1 + random.Int63n(5)
			want = append(want, of(from, at, []string{"X", "Y"}[random.Intn(2)]))
		}
		s := made(t, len(want))
		for _, place := range random.Perm(len(want)) {
			i := want[place]
			for ; random.Intn(3) > 0; i = want[place] {
				i.Value.Off = 7
				s.Put(i)
				s.Drop(i.Span.To - 1)
			}
			if why := s.Put(i); why != api.OK {
				t.Fatal(why)
			}
		}
		if l := s.List(); !slices.Equal(l, want) {
			t.Fatalf("%v; not %v", l, want)
		}
	}
}

// Promises 38.1, 38.2 and 38.5: as many as there may be, from the last one to the first one, and in no order.
func TestMany(t *testing.T) {
	backwards := make([]int, mostKept)
	for i := range backwards {
		backwards[i] = mostKept - 1 - i
	}
	for _, order := range [][]int{backwards, rand.New(rand.NewSource(381)).Perm(mostKept)} {
		s := made(t, mostKept)
		for _, place := range order {
			from := 3 * int64(place)
			if why := s.Put(of(from, from+2, "X")); why != api.OK {
				t.Fatal(why)
			}
		}
		if why := s.Put(of(-1, 0, "X")); why != api.ErrFull || s.Len() != mostKept {
			t.Fatal(why, s.Len())
		}
		for place, i := range s.List() {
			from := 3 * int64(place)
			if got, is := s.Find(from + 1); i != of(from, from+2, "X") || got != i || !is {
				t.Fatalf("at %d stands %v; Find is %v", place, i, got)
			}
		}
	}
}

// Rules: a list that was told is not what is kept; what was told is what was kept then.
func TestListIsNew(t *testing.T) {
	s, a, b := made(t, 5), of(0, 5, "X"), of(9, 12, "Y")
	s.Put(a)
	s.Put(b)
	l := s.List()
	l[0] = of(7, 8, "Z")
	if again := s.List(); !slices.Equal(again, []api.Info{a, b}) {
		t.Error(again)
	}
	l = s.List()
	s.Drop(0)
	s.Put(of(-5, -2, "Z"))
	if !slices.Equal(l, []api.Info{a, b}) {
		t.Error(l)
	}
}

// Two stores share nothing.
func TestTwoStores(t *testing.T) {
	a, b := made(t, 1), made(t, 1)
	a.Put(of(0, 5, "X"))
	if b.Len() != 0 {
		t.Error(b.List())
	}
}

// The example.
func TestExample(t *testing.T) {
	s, one, other := made(t, 5), of(0, 5, ""), of(9, 12, "")
	s.Put(one)
	s.Put(other)
	if i, is := s.Find(4); i != one || !is {
		t.Error(i, is)
	}
	if i, is := s.Find(5); i != (api.Info{}) || is {
		t.Error(i, is)
	}
	if ahead, behind, a, b := s.Near(6); ahead != one || behind != other || !a || !b {
		t.Error(ahead, behind, a, b)
	}
	if why := s.Put(of(4, 6, "")); why != api.ErrState {
		t.Error(why)
	}
}
