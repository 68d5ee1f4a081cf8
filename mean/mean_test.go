package mean_test

import (
	"math"
	"math/big"
	"math/rand"
	"slices"
	"testing"

	"noontide/api"
	"noontide/mean"
	"noontide/num"
)

func of(from, to int64) api.Span {
	return api.Span{From: from, To: to}
}

func part(from, to, val int64) api.Part {
	return api.Part{Span: of(from, to), Val: val}
}

// alike is told bit by bit, of all but what is no number.
func alike(a, b float64) bool {
	return math.Float64bits(a) == math.Float64bits(b) || math.IsNaN(a) && math.IsNaN(b)
}

// nearest rounds what is told exactly to the number that a float64 can be; what is 0 is +0.
func nearest(exact *big.Rat) float64 {
	x, _ := exact.Float64()
	return x
}

func exact(x float64) *big.Rat {
	return new(big.Rat).SetFloat64(x)
}

// counted are the parts that count in a span, told by the words alone.
func counted(l []api.Part, s api.Span) []api.Part {
	var parts []api.Part
	for _, p := range l {
		if p.Span.From < s.To && s.From < p.Span.To && s.From < s.To {
			parts = append(parts, part(max(p.Span.From, s.From), min(p.Span.To, s.To), p.Val))
		}
	}
	return parts
}

// length goes by numbers without ends.
func length(s api.Span) float64 {
	return nearest(new(big.Rat).SetInt(new(big.Int).Sub(big.NewInt(s.To), big.NewInt(s.From))))
}

// stepped goes the steps of Total and of Mean by fractions, each step rounded by itself.
func stepped(l []api.Part, s api.Span) (total, middle float64) {
	var sum float64
	for _, p := range counted(l, s) {
		val := nearest(new(big.Rat).SetInt64(p.Val))
		product := nearest(new(big.Rat).Mul(exact(val), exact(length(p.Span))))
		sum = nearest(new(big.Rat).Add(exact(sum), exact(product)))
		total = nearest(new(big.Rat).Add(exact(total), exact(length(p.Span))))
	}
	if total == 0 {
		return 0, math.NaN()
	}
	return total, nearest(new(big.Rat).Quo(exact(sum), exact(total)))
}

// some are parts that are right, with gaps and without: those of one draw have numbers of about one size.
func some(r *rand.Rand) []api.Part {
	size, values := r.Intn(58), r.Intn(63)
	at := -r.Int63n(1<<size) - r.Int63n(1<<size)
	var l []api.Part
	for range r.Intn(9) {
		if r.Intn(3) == 0 {
			at += r.Int63n(1 << size)
		}
		to := at + 1 + r.Int63n(1<<size)
		l = append(l, part(at, to, r.Int63n(1<<values+1)-1<<values/2))
		if r.Intn(3) == 0 {
			l[len(l)-1].Val = l[0].Val
		}
		at = to
	}
	return l
}

// within is a span that has something of the parts, or nothing: at times all of it, at times one that may not be.
func within(r *rand.Rand, l []api.Part) api.Span {
	if len(l) == 0 || r.Intn(4) == 0 {
		return of(num.Least, num.Great)
	}
	edge := func() int64 {
		s := l[r.Intn(len(l))].Span
		return []int64{s.From - 1, s.From, s.From + (s.To-s.From)/2, s.To - 1, s.To, s.To + 1}[r.Intn(6)]
	}
	return of(edge(), edge())
}

// wrong are parts that are not right.
func wrong() [][]api.Part {
	return [][]api.Part{
		{{}},
		{part(0, 0, 7)},
		{part(5, 3, 7)},
		{part(num.Great, num.Least, 7)},
		{part(0, 5, 1), part(4, 6, 1)},
		{part(0, 5, 1), part(0, 5, 1)},
		{part(10, 30, 4), part(0, 10, 1)},
		{part(0, 5, 1), part(5, 5, 1)},
		{part(0, 5, 1), part(7, 6, 1), part(8, 9, 1)},
		{part(0, 5, 1), part(7, 9, 1), part(8, 9, 1)},
		{part(0, num.Great, 1), part(num.Least, 0, 1)},
	}
}

// Promise 12.1: parts that are right.
func TestRight(t *testing.T) {
	right := [][]api.Part{
		nil,
		{},
		{part(0, 1, 7)},
		{part(0, 10, 1), part(10, 30, 4)},
		{part(0, 10, 1), part(11, 30, 4)},
		{part(0, 10, 1), part(10, 11, 1), part(11, 12, 1)},
		{part(num.Least, 0, num.Least), part(0, num.Great, num.Great)},
		{part(num.Least, num.Great, 0)},
	}
	for _, l := range right {
		if !mean.Right(l) {
			t.Errorf("%v are not right", l)
		}
	}
	for _, l := range wrong() {
		if mean.Right(l) {
			t.Errorf("%v are right", l)
		}
	}
}

// Promises 12.1 to 12.3: what parts that are not right tell.
func TestWrong(t *testing.T) {
	for _, l := range wrong() {
		for _, s := range []api.Span{{}, of(0, 5), of(5, 0), of(100, 200), of(num.Least, num.Great)} {
			if total, why := mean.Total(l, s); !alike(total, 0) || why != api.ErrForm {
				t.Errorf("Total of %v in %v: %g, %d", l, s, total, why)
			}
			if middle, why := mean.Mean(l, s); !alike(middle, 0) || why != api.ErrForm {
				t.Errorf("Mean of %v in %v: %g, %d", l, s, middle, why)
			}
			if low, high, is := mean.Ends(l, s); low != 0 || high != 0 || is {
				t.Errorf("Ends of %v in %v: %d, %d, %t", l, s, low, high, is)
			}
		}
		if merged := mean.Merge(l); len(merged) != 0 {
			t.Errorf("Merge of %v: %v", l, merged)
		}
	}
}

// Promise 12.1: how long parts are, the longest ones too: of two numbers as near the one whose last bit is 0.
func TestTotal(t *testing.T) {
	l := []api.Part{part(0, 10, 1), part(10, 30, 4), part(40, 50, 2)}
	tests := []struct {
		l    []api.Part
		s    api.Span
		want float64
	}{
		{l, of(5, 15), 10},
		{l, of(-5, 15), 15},
		{l, of(0, 50), 40},
		{l, of(25, 45), 10},
		{l, of(30, 40), 0},
		{l, of(50, 60), 0},
		{l, of(12, 13), 1},
		{l, of(15, 5), 0},
		{l, of(5, 5), 0},
		{nil, of(0, 5), 0},
		{l, of(num.Least, num.Great), 40},
		{[]api.Part{part(0, 1<<53+1, 1)}, of(0, num.Great), 1 << 53},
		{[]api.Part{part(0, 1<<53+3, 1)}, of(0, num.Great), 1<<53 + 4},
		{[]api.Part{part(0, 1<<53, 1), part(1<<53, 1<<53+1, 1), part(1<<53+1, 1<<53+2, 1)}, of(0, num.Great), 1 << 53},
		{[]api.Part{part(0, num.Great, 1)}, of(0, num.Great), 1 << 63},
		{[]api.Part{part(num.Least, 0, 1)}, of(num.Least, 0), 1 << 63},
		{[]api.Part{part(num.Least, num.Great, 1)}, of(num.Least, num.Great), 1 << 64},
		{[]api.Part{part(num.Least, 1024, 1)}, of(num.Least, num.Great), 1 << 63},
		{[]api.Part{part(num.Least, 1025, 1)}, of(num.Least, num.Great), 1<<63 + 2048},
		{[]api.Part{part(num.Least, 3071, 1)}, of(num.Least, num.Great), 1<<63 + 2048},
		{[]api.Part{part(num.Least, 3072, 1)}, of(num.Least, num.Great), 1<<63 + 4096},
		{[]api.Part{part(num.Least, num.Great, 1)}, of(num.Least, num.Great-1024), 1<<64 - 2048},
	}
	for _, x := range tests {
		if total, why := mean.Total(x.l, x.s); !alike(total, x.want) || why != api.OK {
			t.Errorf("Total of %v in %v: %g, %d; not %g", x.l, x.s, total, why, x.want)
		}
	}
}

// Promise 12.2: means, and where none counts, what is not a number at all.
func TestMean(t *testing.T) {
	none := math.NaN()
	l := []api.Part{part(0, 10, 1), part(10, 30, 4), part(40, 50, -2)}
	tests := []struct {
		l    []api.Part
		s    api.Span
		want float64
	}{
		{l, of(5, 15), 2.5},
		{l, of(0, 30), 3},
		{l, of(0, 40), 3},
		{l, of(20, 50), 1},
		{l, of(25, 60), 0},
		{l, of(45, 60), -2},
		{l, of(30, 40), none},
		{l, of(50, 60), none},
		{l, of(15, 5), none},
		{l, of(5, 5), none},
		{nil, of(0, 5), none},
		{[]api.Part{part(-7, 7, 0)}, of(-9, 0), 0},
		{[]api.Part{part(0, 1, 1<<53+1)}, of(0, 1), 1 << 53},
		{[]api.Part{part(num.Least, num.Great, num.Least)}, of(num.Least, num.Great), -1 << 63},
		{[]api.Part{part(num.Least, 0, num.Least), part(0, num.Great, num.Great)}, of(num.Least, num.Great), 0},
	}
	for _, x := range tests {
		if middle, why := mean.Mean(x.l, x.s); !alike(middle, x.want) || why != api.OK {
			t.Errorf("Mean of %v in %v: %g, %d; not %g", x.l, x.s, middle, why, x.want)
		}
	}
}

// Promises 12.1 and 12.2: each step is rounded by itself, as fractions tell it.
func TestSteps(t *testing.T) {
	r := rand.New(rand.NewSource(12))
	for range 20000 {
		l := some(r)
		s := within(r, l)
		total, middle := stepped(l, s)
		if got, why := mean.Total(l, s); !alike(got, total) || why != api.OK {
			t.Fatalf("Total of %v in %v: %g, %d; not %g", l, s, got, why, total)
		}
		if got, why := mean.Mean(l, s); !alike(got, middle) || why != api.OK {
			t.Fatalf("Mean of %v in %v: %g, %d; not %g", l, s, got, why, middle)
		}
	}
}

// Promise 12.3: the least and the greatest of those that count.
func TestEnds(t *testing.T) {
	l := []api.Part{part(0, 10, 5), part(10, 30, -4), part(40, 50, 9)}
	tests := []struct {
		l         []api.Part
		s         api.Span
		low, high int64
		is        bool
	}{
		{l, of(0, 100), -4, 9, true},
		{l, of(0, 10), 5, 5, true},
		{l, of(0, 11), -4, 5, true},
		{l, of(29, 41), -4, 9, true},
		{l, of(10, 40), -4, -4, true},
		{l, of(45, 46), 9, 9, true},
		{l, of(30, 40), 0, 0, false},
		{l, of(50, 100), 0, 0, false},
		{l, of(20, 5), 0, 0, false},
		{l, api.Span{}, 0, 0, false},
		{nil, of(0, 100), 0, 0, false},
		{[]api.Part{part(0, 1, 0)}, of(0, 1), 0, 0, true},
		{[]api.Part{part(0, 1, num.Great), part(1, 2, num.Least)}, of(0, 2), num.Least, num.Great, true},
	}
	for _, x := range tests {
		if low, high, is := mean.Ends(x.l, x.s); low != x.low || high != x.high || is != x.is {
			t.Errorf("Ends of %v in %v: %d, %d, %t", x.l, x.s, low, high, is)
		}
	}
	r := rand.New(rand.NewSource(123))
	for range 4000 {
		l := some(r)
		s := within(r, l)
		var low, high int64
		var vals []int64
		for _, p := range counted(l, s) {
			vals = append(vals, p.Val)
		}
		if len(vals) > 0 {
			low, high = slices.Min(vals), slices.Max(vals)
		}
		if l1, h1, is := mean.Ends(l, s); l1 != low || h1 != high || is != (len(vals) > 0) {
			t.Fatalf("Ends of %v in %v: %d, %d, %t; not %d, %d", l, s, l1, h1, is, low, high)
		}
	}
}

// Promise 12.3: parts that are one with the next ones.
func TestMerge(t *testing.T) {
	tests := []struct{ l, want []api.Part }{
		{nil, nil},
		{[]api.Part{part(0, 1, 7)}, []api.Part{part(0, 1, 7)}},
		{[]api.Part{part(0, 10, 4), part(10, 30, 4)}, []api.Part{part(0, 30, 4)}},
		{[]api.Part{part(0, 10, 4), part(10, 30, 5)}, []api.Part{part(0, 10, 4), part(10, 30, 5)}},
		{[]api.Part{part(0, 10, 4), part(11, 30, 4)}, []api.Part{part(0, 10, 4), part(11, 30, 4)}},
		{[]api.Part{part(0, 1, 4), part(1, 2, 4), part(2, 3, 4), part(3, 4, 5), part(4, 5, 4)}, []api.Part{part(0, 3, 4), part(3, 4, 5), part(4, 5, 4)}},
		{[]api.Part{part(0, 1, 4), part(2, 3, 4), part(3, 4, 4), part(5, 6, 4)}, []api.Part{part(0, 1, 4), part(2, 4, 4), part(5, 6, 4)}},
		{[]api.Part{part(num.Least, 0, 0), part(0, num.Great, 0)}, []api.Part{part(num.Least, num.Great, 0)}},
	}
	for _, x := range tests {
		if merged := mean.Merge(x.l); !slices.Equal(merged, x.want) {
			t.Errorf("Merge of %v: %v, not %v", x.l, merged, x.want)
		}
	}
}

// Promise 12.4: the mean lies between the ends, but for what is rounded.
func TestBetween(t *testing.T) {
	r := rand.New(rand.NewSource(124))
	for range 20000 {
		l := some(r)
		s := within(r, l)
		low, high, is := mean.Ends(l, s)
		middle, why := mean.Mean(l, s)
		if why != api.OK || is == math.IsNaN(middle) {
			t.Fatalf("Mean of %v in %v: %g, %d", l, s, middle, why)
		}
		// Each of a few steps is off by 1/2^53 of its numbers, at most.
		rounded := max(math.Abs(float64(low)), math.Abs(float64(high))) / (1 << 48)
		if is && (middle < float64(low)-rounded || middle > float64(high)+rounded) {
			t.Fatalf("Mean of %v in %v: %g, not from %d to %d", l, s, middle, low, high)
		}
	}
}

// Promise 12.5: merged, parts have the same total, but for what is rounded, and the same ends; and none of them could be one with the next.
func TestMerged(t *testing.T) {
	r := rand.New(rand.NewSource(125))
	for range 20000 {
		l := some(r)
		s := within(r, l)
		merged := mean.Merge(l)
		total, _ := mean.Total(l, s)
		again, why := mean.Total(merged, s)
		if why != api.OK || math.Abs(again-total) > total/(1<<48) {
			t.Fatalf("Total of %v in %v: %g, merged %g, %d", l, s, total, again, why)
		}
		low, high, is := mean.Ends(l, s)
		if l1, h1, i1 := mean.Ends(merged, s); l1 != low || h1 != high || i1 != is {
			t.Fatalf("Ends of %v in %v: %d, %d, %t; merged %d, %d, %t", l, s, low, high, is, l1, h1, i1)
		}
		for i := 1; i < len(merged); i++ {
			if a, b := merged[i-1], merged[i]; a.Span.To == b.Span.From && a.Val == b.Val {
				t.Fatalf("Merge of %v: %v", l, merged)
			}
		}
	}
}

// Rules: what is handed in is neither changed nor shared.
func TestPartsAreLeft(t *testing.T) {
	l := []api.Part{part(0, 10, 4), part(10, 30, 4), part(40, 50, 1)}
	before := slices.Clone(l)
	mean.Total(l, of(5, 45))
	mean.Mean(l, of(5, 45))
	mean.Ends(l, of(5, 45))
	for _, merged := range [][]api.Part{mean.Merge(l), mean.Merge(l[1:])} {
		merged[0] = part(70, 80, 90)
	}
	if !slices.Equal(l, before) {
		t.Errorf("the parts are now %v", l)
	}
}
