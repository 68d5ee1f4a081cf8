package span_test

import (
	"math/big"
	"slices"
	"testing"

	"noontide/api"
	"noontide/num"
	"noontide/span"
)

// edges are seconds at which the spans of these tests begin and end: at both ends of the numbers, and around 0.
func edges() []int64 {
	return []int64{num.Least, num.Least + 1, num.Least + 2, -2, -1, 0, 1, 2, num.Great - 2, num.Great - 1, num.Great}
}

func of(from, to int64) api.Span {
	return api.Span{From: from, To: to}
}

// all are all spans of these edges, such as may not be with them.
func all() []api.Span {
	var l []api.Span
	for _, from := range edges() {
		for _, to := range edges() {
			l = append(l, of(from, to))
		}
	}
	return l
}

// lies is told by the words alone: such a span may be, and the second is from From on and below To.
func lies(s api.Span, t int64) bool {
	return s.From < s.To && s.From <= t && t < s.To
}

// runs are the spans, in order, of the seconds that are kept: between two edges all seconds are alike, so each edge stands for those up to the next one.
func runs(kept func(t int64) bool) []api.Span {
	var l []api.Span
	e := edges()
	for i, from := range e[:len(e)-1] {
		last := len(l) - 1
		switch {
		case !kept(from):
		case last >= 0 && l[last].To == from:
			l[last].To = e[i+1]
		default:
			l = append(l, of(from, e[i+1]))
		}
	}
	return l
}

// Promise 10.1: which spans may be, and what lies in them.
func TestRightAndHas(t *testing.T) {
	for _, s := range all() {
		if span.Right(s) != (s.From < s.To) {
			t.Errorf("Right of %v: %t", s, span.Right(s))
		}
		for _, second := range edges() {
			if span.Has(s, second) != lies(s, second) {
				t.Errorf("Has of %v and %d: %t", s, second, span.Has(s, second))
			}
		}
	}
}

// Promise 10.1: spans that meet and touch, and such as may not be do neither.
func TestMeetAndTouch(t *testing.T) {
	tests := []struct {
		a, b        api.Span
		meet, touch bool
	}{
		{of(0, 10), of(3, 5), true, false},
		{of(0, 10), of(0, 10), true, false},
		{of(0, 10), of(9, 12), true, false},
		{of(0, 10), of(10, 12), false, true},
		{of(0, 10), of(11, 12), false, false},
		{of(-5, 0), of(0, 1), false, true},
		{of(num.Least, 0), of(0, num.Great), false, true},
		{of(num.Least, 1), of(0, num.Great), true, false},
		{of(num.Least, num.Great), of(7, 8), true, false},
		{of(num.Least, num.Least+1), of(num.Great-1, num.Great), false, false},
		{of(0, 10), of(5, 5), false, false},
		{of(0, 10), of(10, 10), false, false},
		{of(0, 10), of(0, 0), false, false},
		{of(0, 10), of(10, 0), false, false},
		{of(0, 10), of(10, 5), false, false},
		{of(0, 10), of(7, 3), false, false},
		{of(5, 5), of(5, 5), false, false},
		{of(5, 3), of(3, 5), false, false},
		{of(num.Great, num.Least), of(num.Least, num.Great), false, false},
	}
	for _, x := range tests {
		for _, pair := range [2][2]api.Span{{x.a, x.b}, {x.b, x.a}} {
			if meet := span.Meet(pair[0], pair[1]); meet != x.meet {
				t.Errorf("Meet of %v: %t", pair, meet)
			}
			if touch := span.Touch(pair[0], pair[1]); touch != x.touch {
				t.Errorf("Touch of %v: %t", pair, touch)
			}
		}
	}
}

// Promises 10.1 and 10.4: second by second, of all pairs of spans.
func TestPairs(t *testing.T) {
	for _, a := range all() {
		for _, b := range all() {
			inBoth := runs(func(t int64) bool { return lies(a, t) && lies(b, t) })
			inOne := runs(func(t int64) bool { return lies(a, t) || lies(b, t) })
			right := a.From < a.To && b.From < b.To
			pair(t, "Both", span.Both, a, b, inBoth, len(inBoth) == 1)
			pair(t, "Join", span.Join, a, b, inOne, right && len(inOne) == 1)
			if meet := span.Meet(a, b); meet != (len(inBoth) == 1) {
				t.Fatalf("Meet of %v and %v: %t", a, b, meet)
			}
			if touch := span.Touch(a, b); touch != (right && len(inOne) == 1 && len(inBoth) == 0) {
				t.Fatalf("Touch of %v and %v: %t", a, b, touch)
			}
		}
	}
}

func pair(t *testing.T, call string, do func(a, b api.Span) (api.Span, bool), a, b api.Span, want []api.Span, is bool) {
	t.Helper()
	var one api.Span
	if is {
		one = want[0]
	}
	if s, got := do(a, b); s != one || got != is {
		t.Fatalf("%s of %v and %v: %v, %t; not %v, %t", call, a, b, s, got, one, is)
	}
}

// Promises 10.2 and 10.4: what is left, second by second, of all pairs of spans.
func TestLess(t *testing.T) {
	for _, a := range all() {
		for _, b := range all() {
			want := runs(func(t int64) bool { return lies(a, t) && !lies(b, t) })
			if got := span.Less(a, b); !slices.Equal(got, want) {
				t.Fatalf("Less of %v and %v: %v, not %v", a, b, got, want)
			}
		}
	}
}

// Promise 10.2: what is left, of spans that are known.
func TestLessKnown(t *testing.T) {
	tests := []struct {
		a, b api.Span
		want []api.Span
	}{
		{of(0, 10), of(3, 5), []api.Span{of(0, 3), of(5, 10)}},
		{of(0, 10), of(0, 5), []api.Span{of(5, 10)}},
		{of(0, 10), of(-3, 5), []api.Span{of(5, 10)}},
		{of(0, 10), of(5, 10), []api.Span{of(0, 5)}},
		{of(0, 10), of(5, 12), []api.Span{of(0, 5)}},
		{of(0, 10), of(0, 10), nil},
		{of(3, 5), of(0, 10), nil},
		{of(0, 10), of(10, 12), []api.Span{of(0, 10)}},
		{of(0, 10), of(-5, -1), []api.Span{of(0, 10)}},
		{of(0, 10), of(5, 3), []api.Span{of(0, 10)}},
		{of(0, 10), of(5, 5), []api.Span{of(0, 10)}},
		{of(5, 3), of(0, 10), nil},
		{of(5, 3), of(7, 7), nil},
		{of(0, 0), of(2, 1), nil},
	}
	for _, x := range tests {
		if got := span.Less(x.a, x.b); !slices.Equal(got, x.want) {
			t.Errorf("Less of %v and %v: %v, not %v", x.a, x.b, got, x.want)
		}
	}
}

// Promise 10.3: how many seconds spans have, as numbers without ends tell it.
func TestLen(t *testing.T) {
	for _, s := range all() {
		want := new(big.Int).Sub(big.NewInt(s.To), big.NewInt(s.From))
		n, why := span.Len(s)
		switch {
		case s.From < s.To && want.IsInt64():
			if n != want.Int64() || why != api.OK {
				t.Errorf("Len of %v: %d, %d; not %s", s, n, why, want)
			}
		case n != 0 || why != api.ErrRange:
			t.Errorf("Len of %v: %d, %d; not 0, ErrRange", s, n, why)
		}
	}
	for _, s := range []api.Span{of(-1, num.Great-1), of(0, num.Great), of(num.Least, -1)} {
		if n, why := span.Len(s); n != num.Great || why != api.OK {
			t.Errorf("Len of %v: %d, %d", s, n, why)
		}
	}
}

// Promise 10.3: spans moved, as far as the numbers go.
func TestMove(t *testing.T) {
	for _, s := range all() {
		for _, n := range append(edges(), 1000, -1000, num.Least/2, num.Great/2, -num.Great) {
			from := new(big.Int).Add(big.NewInt(s.From), big.NewInt(n))
			to := new(big.Int).Add(big.NewInt(s.To), big.NewInt(n))
			moved, why := span.Move(s, n)
			switch {
			case s.From < s.To && from.IsInt64() && to.IsInt64():
				if moved != of(from.Int64(), to.Int64()) || why != api.OK {
					t.Fatalf("Move of %v by %d: %v, %d", s, n, moved, why)
				}
			case moved != (api.Span{}) || why != api.ErrRange:
				t.Fatalf("Move of %v by %d: %v, %d; not zero, ErrRange", s, n, moved, why)
			}
		}
	}
}

// Promise 10.5: what both have, and what a has more, together, are as long as a.
func TestParts(t *testing.T) {
	for _, a := range all() {
		whole, why := span.Len(a)
		if why != api.OK {
			continue
		}
		for _, b := range all() {
			parts := span.Less(a, b)
			if both, meet := span.Both(a, b); meet {
				parts = append(parts, both)
			}
			var sum int64
			for _, s := range parts {
				n, why := span.Len(s)
				if why != api.OK {
					t.Fatalf("Len of %v: %d", s, why)
				}
				sum += n
			}
			if sum != whole {
				t.Fatalf("%v without %v, and both: %v", a, b, parts)
			}
		}
	}
}
