package spans_test

import (
	"math/big"
	"math/rand"
	"slices"
	"testing"

	"noontide/api"
	"noontide/num"
	"noontide/spans"
)

// edges are seconds at which the spans of these tests begin and end: at both ends of the numbers, and around 0.
func edges() []int64 {
	return []int64{num.Least, num.Least + 1, -2, -1, 0, 1, 2, 3, num.Great - 1, num.Great}
}

func of(from, to int64) api.Span {
	return api.Span{From: from, To: to}
}

// lies tells whether a second lies in one, at least, of the spans that may be.
func lies(l []api.Span, t int64) bool {
	return slices.ContainsFunc(l, func(s api.Span) bool { return s.From < s.To && s.From <= t && t < s.To })
}

// runs are the set of the seconds that are kept: between two edges all seconds are alike, so each edge stands for those up to the next one.
func runs(kept func(t int64) bool) []api.Span {
	var l []api.Span
	e := edges()
	for i, from := range e[:len(e)-1] {
		last := len(l) - 1
		switch {
		case !kept(from):
		case last >= 0 && l[last].To == from:
			l[last].To = e[i+1]
		default:
			l = append(l, of(from, e[i+1]))
		}
	}
	return l
}

// some is a list of a few spans of these edges, in no order, such as may not be with them.
func some(r *rand.Rand) []api.Span {
	e := edges()
	var l []api.Span
	for range r.Intn(6) {
		l = append(l, of(e[r.Intn(len(e))], e[r.Intn(len(e))]))
	}
	return l
}

// lists are all lists of none or one, and many longer ones, always the same.
func lists() [][]api.Span {
	all := [][]api.Span{nil, {}}
	for _, from := range edges() {
		for _, to := range edges() {
			all = append(all, []api.Span{of(from, to)})
		}
	}
	r := rand.New(rand.NewSource(11))
	for range 400 {
		all = append(all, some(r))
	}
	return all
}

// Promise 11.1: what is a set: the spans may be, and each ends ahead of where the next one begins.
func TestRight(t *testing.T) {
	tests := []struct {
		l    []api.Span
		want bool
	}{
		{nil, true},
		{[]api.Span{}, true},
		{[]api.Span{of(0, 1)}, true},
		{[]api.Span{of(0, 0)}, false},
		{[]api.Span{of(2, 1)}, false},
		{[]api.Span{of(0, 1), of(2, 3)}, true},
		{[]api.Span{of(0, 2), of(2, 3)}, false},
		{[]api.Span{of(0, 3), of(2, 5)}, false},
		{[]api.Span{of(0, 9), of(2, 5)}, false},
		{[]api.Span{of(4, 5), of(0, 1)}, false},
		{[]api.Span{of(0, 1), of(0, 1)}, false},
		{[]api.Span{of(0, 1), of(2, 2)}, false},
		{[]api.Span{of(0, 1), of(3, 2), of(5, 6)}, false},
		{[]api.Span{of(0, 1), of(3, 4), of(4, 6)}, false},
		{[]api.Span{of(num.Least, -1), of(0, num.Great)}, true},
		{[]api.Span{of(num.Least, 0), of(0, num.Great)}, false},
		{[]api.Span{of(num.Great, num.Least)}, false},
	}
	for _, x := range tests {
		if right := spans.Right(x.l); right != x.want {
			t.Errorf("Right of %v: %t", x.l, right)
		}
	}
}

// Promise 11.1: a list is a set just if it is its own set.
func TestRightAsSets(t *testing.T) {
	for _, l := range lists() {
		own := runs(func(t int64) bool { return lies(l, t) })
		if right := spans.Right(l); right != slices.Equal(l, own) {
			t.Errorf("Right of %v: %t", l, right)
		}
		if !spans.Right(own) {
			t.Errorf("%v is no set", own)
		}
	}
}

// Promises 11.1 and 11.4: the set of any spans, second by second.
func TestOf(t *testing.T) {
	if set := spans.Of([]api.Span{of(3, 5), of(0, 3), of(9, 8)}); !slices.Equal(set, []api.Span{of(0, 5)}) {
		t.Errorf("the example: %v", set)
	}
	for _, l := range lists() {
		want := runs(func(t int64) bool { return lies(l, t) })
		if set := spans.Of(l); !slices.Equal(set, want) {
			t.Errorf("Of %v: %v, not %v", l, set, want)
		}
	}
}

// Promise 11.1: the span of the set, not of the list, in which a second lies.
func TestFind(t *testing.T) {
	for _, l := range lists() {
		set := runs(func(t int64) bool { return lies(l, t) })
		for _, second := range edges() {
			var want api.Span
			i := slices.IndexFunc(set, func(s api.Span) bool { return s.From <= second && second < s.To })
			if i >= 0 {
				want = set[i]
			}
			if s, is := spans.Find(l, second); s != want || is != (i >= 0) {
				t.Errorf("Find of %v and %d: %v, %t; not %v", l, second, s, is, want)
			}
		}
	}
}

// Promises 11.2 and 11.4: two lists, second by second.
func TestPairs(t *testing.T) {
	all := lists()
	r := rand.New(rand.NewSource(112))
	for range 40000 {
		a, b := all[r.Intn(len(all))], all[r.Intn(len(all))]
		tests := []struct {
			call      string
			got, want []api.Span
		}{
			{"Or", spans.Or(a, b), runs(func(t int64) bool { return lies(a, t) || lies(b, t) })},
			{"And", spans.And(a, b), runs(func(t int64) bool { return lies(a, t) && lies(b, t) })},
			{"Less", spans.Less(a, b), runs(func(t int64) bool { return lies(a, t) && !lies(b, t) })},
		}
		for _, x := range tests {
			if !slices.Equal(x.got, x.want) {
				t.Fatalf("%s of %v and %v: %v, not %v", x.call, a, b, x.got, x.want)
			}
		}
	}
}

// Promises 11.2 and 11.4: what a list leaves of a span, second by second.
func TestGaps(t *testing.T) {
	if gaps := spans.Gaps([]api.Span{of(2, 4)}, of(0, 9)); !slices.Equal(gaps, []api.Span{of(0, 2), of(4, 9)}) {
		t.Errorf("the example: %v", gaps)
	}
	for _, l := range lists() {
		for _, from := range edges() {
			for _, to := range edges() {
				s := of(from, to)
				want := runs(func(t int64) bool { return lies([]api.Span{s}, t) && !lies(l, t) })
				if gaps := spans.Gaps(l, s); !slices.Equal(gaps, want) {
					t.Fatalf("Gaps of %v in %v: %v, not %v", l, s, gaps, want)
				}
			}
		}
	}
}

// total adds what is told by numbers without ends.
func total(set []api.Span) *big.Int {
	sum := new(big.Int)
	for _, s := range set {
		sum.Add(sum, big.NewInt(s.To))
		sum.Sub(sum, big.NewInt(s.From))
	}
	return sum
}

// Promise 11.3: how many seconds there are, each counted once.
func TestTotal(t *testing.T) {
	for _, l := range lists() {
		want := total(runs(func(t int64) bool { return lies(l, t) }))
		n, why := spans.Total(l)
		switch {
		case want.IsInt64():
			if n != want.Int64() || why != api.OK {
				t.Errorf("Total of %v: %d, %d; not %s", l, n, why, want)
			}
		case n != 0 || why != api.ErrRange:
			t.Errorf("Total of %v: %d, %d; not 0, ErrRange", l, n, why)
		}
	}
}

// Promise 11.3: the last totals that are told, and the first that are not.
func TestTotalEdges(t *testing.T) {
	tests := []struct {
		l    []api.Span
		want int64
		why  api.Errno
	}{
		{nil, 0, api.OK},
		{[]api.Span{of(5, 5), of(7, 3)}, 0, api.OK},
		{[]api.Span{of(0, 3), of(2, 5), of(0, 3)}, 5, api.OK},
		{[]api.Span{of(0, num.Great)}, num.Great, api.OK},
		{[]api.Span{of(0, num.Great), of(1, num.Great), of(7, 9)}, num.Great, api.OK},
		{[]api.Span{of(-1, num.Great)}, 0, api.ErrRange},
		{[]api.Span{of(num.Least, -1)}, num.Great, api.OK},
		{[]api.Span{of(num.Least, 0)}, 0, api.ErrRange},
		{[]api.Span{of(num.Least, -2), of(7, 8)}, num.Great, api.OK},
		{[]api.Span{of(num.Least, -2), of(7, 9)}, 0, api.ErrRange},
		{[]api.Span{of(7, 9), of(num.Least, -2)}, 0, api.ErrRange},
		{[]api.Span{of(num.Least, 0), of(1, num.Great)}, 0, api.ErrRange},
		{[]api.Span{of(num.Least, num.Great)}, 0, api.ErrRange},
	}
	for _, x := range tests {
		if n, why := spans.Total(x.l); n != x.want || why != x.why {
			t.Errorf("Total of %v: %d, %d", x.l, n, why)
		}
	}
}

// Promise 11.5: the order, and how often a second is there, has no part; a set is its own set.
func TestAsSets(t *testing.T) {
	r := rand.New(rand.NewSource(115))
	for _, l := range lists() {
		set := spans.Of(l)
		mixed := append(slices.Clone(l), set...)
		r.Shuffle(len(mixed), func(i, j int) { mixed[i], mixed[j] = mixed[j], mixed[i] })
		for _, same := range [][]api.Span{set, mixed} {
			if again := spans.Of(same); !slices.Equal(again, set) {
				t.Errorf("Of %v: %v, not %v", same, again, set)
			}
		}
	}
}

// Promise 11.5: what is left of a without b, and what both have, are a.
func TestLeftAndBoth(t *testing.T) {
	r := rand.New(rand.NewSource(116))
	for range 4000 {
		a, b := some(r), some(r)
		if whole := spans.Or(spans.Less(a, b), spans.And(a, b)); !slices.Equal(whole, spans.Of(a)) {
			t.Fatalf("%v and %v: %v", a, b, whole)
		}
	}
}

// Promise 11.5, of as many spans as a list may have, and in no order.
func TestManySpans(t *testing.T) {
	r := rand.New(rand.NewSource(117))
	var l, want []api.Span
	for i := range int64(api.MaxSpans) {
		l = append(l, of(10*i, 10*i+4), of(10*i+2, 10*i+5), of(10*i+3, 10*i))
		want = append(want, of(10*i, 10*i+5))
	}
	r.Shuffle(len(l), func(i, j int) { l[i], l[j] = l[j], l[i] })
	if set := spans.Of(l); !slices.Equal(set, want) {
		t.Errorf("a set of %d spans, not of %d", len(set), len(want))
	}
	if gaps := spans.Gaps(l, of(0, 10*api.MaxSpans)); len(gaps) != api.MaxSpans || gaps[0] != of(5, 10) {
		t.Errorf("%d gaps", len(gaps))
	}
	if n, why := spans.Total(l); n != 5*api.MaxSpans || why != api.OK {
		t.Errorf("Total: %d, %d", n, why)
	}
}

// Rules: what is handed in is neither changed nor shared.
func TestListsAreLeft(t *testing.T) {
	a, b := []api.Span{of(0, 2), of(4, 6)}, []api.Span{of(8, 9)}
	l := []api.Span{of(3, 5), of(0, 3), of(9, 8)}
	answers := [][]api.Span{spans.Of(a), spans.Or(a, nil), spans.Or(nil, a), spans.Or(a, b), spans.And(a, a), spans.Less(a, b), spans.Gaps(b, of(0, 8)), spans.Of(l)}
	spans.Find(l, 4)
	spans.Total(l)
	for _, answer := range answers {
		answer[0] = of(70, 80)
	}
	if !slices.Equal(a, []api.Span{of(0, 2), of(4, 6)}) || !slices.Equal(b, []api.Span{of(8, 9)}) || !slices.Equal(l, []api.Span{of(3, 5), of(0, 3), of(9, 8)}) {
		t.Errorf("the lists are now %v, %v and %v", a, b, l)
	}
}
