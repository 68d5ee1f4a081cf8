package real_test

import (
	"math"
	"testing"

	"noontide/api"
	"noontide/real"
)

var (
	none    = math.NaN()
	below   = math.Inf(-1)
	minus   = math.Copysign(0, -1)
	above   = math.Inf(1)
	tiny    = math.SmallestNonzeroFloat64
	most    = math.MaxFloat64
	oddNone = math.Float64frombits(0xfff0000000000001)
	modes   = []int{api.RoundDown, api.RoundUp, api.RoundZero, api.RoundEven}
)

// line is numbers of all kinds, each one Less than the next.
func line() []float64 {
	return []float64{none, below, -most, -1 << 63, -1<<63 + 1024, -2251799813685249.5, -2251799813685248.5, -2.5, -2, -1.5, -1, -0.75, -0.5, -0.25, -tiny, minus, 0, tiny, 0.25, 0.49999999999999994, 0.5, 0.75, 1, 1.5, 2, 2.5, 3.5, 4503599627370495.5, 4503599627370496, 9007199254740994, 1<<63 - 1024, 1 << 63, most, above}
}

// alike is told bit by bit, without the package, of all but what is no number.
func alike(a, b float64) bool {
	return math.Float64bits(a) == math.Float64bits(b) || math.IsNaN(a) && math.IsNaN(b)
}

// Promise 2.1: the seven kinds.
func TestKind(t *testing.T) {
	tests := []struct {
		x    float64
		kind int
	}{
		{none, 0}, {-none, 0}, {oddNone, 0}, {math.Float64frombits(0x7ff0000000000001), 0}, {math.Float64frombits(1<<64 - 1), 0},
		{below, 1}, {-most, 2}, {-2, 2}, {-tiny, 2}, {minus, 3}, {0, 4}, {tiny, 5}, {0.5, 5}, {most, 5}, {above, 6},
	}
	for _, x := range tests {
		if kind := real.Kind(x.x); kind != x.kind {
			t.Errorf("Kind of %g: %d, not %d", x.x, kind, x.kind)
		}
	}
}

// Promises 2.1 and 2.4: numbers stand in one order, and none has two places.
func TestOrder(t *testing.T) {
	for i, a := range line() {
		for j, b := range line() {
			if real.Less(a, b) != (i < j) || real.Same(a, b) != (i == j) {
				t.Errorf("%g and %g: Less %t, Same %t", a, b, real.Less(a, b), real.Same(a, b))
			}
		}
	}
	if !real.Same(none, oddNone) || real.Less(none, oddNone) || real.Less(oddNone, none) {
		t.Error("what is no number is told apart by its bits")
	}
}

// Promise 2.2: each mode, on both sides of 0.
func TestRound(t *testing.T) {
	tests := []struct {
		x    float64
		want [4]float64
	}{
		{2.5, [4]float64{2, 3, 2, 2}},
		{3.5, [4]float64{3, 4, 3, 4}},
		{2.75, [4]float64{2, 3, 2, 3}},
		{-2.5, [4]float64{-3, -2, -2, -2}},
		{-3.5, [4]float64{-4, -3, -3, -4}},
		{-2.75, [4]float64{-3, -2, -2, -3}},
		{0.5, [4]float64{0, 1, 0, 0}},
		{-0.5, [4]float64{-1, minus, minus, minus}},
		{0.49999999999999994, [4]float64{0, 1, 0, 0}},
		{-0.75, [4]float64{-1, minus, minus, -1}},
		{1.5, [4]float64{1, 2, 1, 2}},
		{tiny, [4]float64{0, 1, 0, 0}},
		{-tiny, [4]float64{-1, minus, minus, minus}},
		{2251799813685249.5, [4]float64{2251799813685249, 2251799813685250, 2251799813685249, 2251799813685250}},
		{-2251799813685248.5, [4]float64{-2251799813685249, -2251799813685248, -2251799813685248, -2251799813685248}},
	}
	for _, whole := range []float64{none, oddNone, below, minus, 0, above, 7, -7, 1 << 53, most, -most} {
		tests = append(tests, struct {
			x    float64
			want [4]float64
		}{whole, [4]float64{whole, whole, whole, whole}})
	}
	for _, x := range tests {
		for i, mode := range modes {
			if whole, why := real.Round(x.x, mode); !alike(whole, x.want[i]) || why != api.OK {
				t.Errorf("Round of %g by %d: %g, %d; not %g", x.x, mode, whole, why, x.want[i])
			}
		}
	}
}

// Promise 2.2: a mode that is none is told ahead of all else.
func TestRoundModes(t *testing.T) {
	for _, mode := range []int{0, 5, -1, math.MaxInt, math.MinInt} {
		for _, x := range []float64{1.5, minus, none, above, most} {
			if whole, why := real.Round(x, mode); !alike(whole, 0) || why != api.ErrForm {
				t.Errorf("Round of %g by %d: %g, %d", x, mode, whole, why)
			}
			if n, why := real.Whole(x, mode); n != 0 || why != api.ErrForm {
				t.Errorf("Whole of %g by %d: %d, %d", x, mode, n, why)
			}
		}
	}
}

// Promise 2.2: whole numbers, and which error is told.
func TestWhole(t *testing.T) {
	tests := []struct {
		x    float64
		mode int
		n    int64
		why  api.Errno
	}{
		{-2.5, api.RoundDown, -3, api.OK},
		{-2.5, api.RoundUp, -2, api.OK},
		{2.5, api.RoundZero, 2, api.OK},
		{3.5, api.RoundEven, 4, api.OK},
		{minus, api.RoundUp, 0, api.OK},
		{-0.5, api.RoundUp, 0, api.OK},
		{none, api.RoundDown, 0, api.ErrNaN},
		{oddNone, api.RoundEven, 0, api.ErrNaN},
		{below, api.RoundUp, 0, api.ErrRange},
		{above, api.RoundZero, 0, api.ErrRange},
		{most, api.RoundDown, 0, api.ErrRange},
		{1 << 63, api.RoundDown, 0, api.ErrRange},
		{1<<63 - 1024, api.RoundUp, 1<<63 - 1024, api.OK},
		{-1 << 63, api.RoundDown, -1 << 63, api.OK},
		{-1<<63 - 2048, api.RoundUp, 0, api.ErrRange},
	}
	for _, x := range tests {
		if n, why := real.Whole(x.x, x.mode); n != x.n || why != x.why {
			t.Errorf("Whole of %g by %d: %d, %d", x.x, x.mode, n, why)
		}
	}
}

// Promise 2.3: the nearest number, of two as near the one whose last bit is 0.
func TestOf(t *testing.T) {
	tests := []struct {
		n int64
		x float64
	}{
		{0, 0}, {-1, -1}, {1 << 53, 9007199254740992}, {1<<53 + 1, 9007199254740992}, {1<<53 + 2, 9007199254740994}, {1<<53 + 3, 9007199254740996},
		{-1<<53 - 1, -9007199254740992}, {1<<63 - 1, 1 << 63}, {-1 << 63, -1 << 63}, {1<<63 - 513, 1<<63 - 1024}, {1<<63 - 512, 1 << 63},
	}
	for _, x := range tests {
		if of := real.Of(x.n); !alike(of, x.x) {
			t.Errorf("Of %d: %g", x.n, of)
		}
	}
}

// Promise 2.3: a sum begins with the first one, and goes on in order.
func TestSum(t *testing.T) {
	tests := []struct {
		l    []float64
		want float64
	}{
		{nil, 0},
		{[]float64{}, 0},
		{[]float64{minus}, minus},
		{[]float64{minus, minus}, minus},
		{[]float64{minus, 0}, 0},
		{[]float64{1, 2, 0.5}, 3.5},
		{[]float64{1 << 53, 1, 1}, 1 << 53},
		{[]float64{1, 1, 1 << 53}, 1<<53 + 2},
		{[]float64{1e308, 1e308, -1e308}, above},
		{[]float64{1e308, -1e308, 1e308}, 1e308},
		{[]float64{above, below}, none},
		{[]float64{none, 1}, none},
		{[]float64{oddNone}, none},
		{[]float64{below, 1}, below},
	}
	for _, x := range tests {
		if sum := real.Sum(x.l...); !alike(sum, x.want) {
			t.Errorf("Sum of %v: %g, not %g", x.l, sum, x.want)
		}
	}
}

// Promise 2.3: the least one by Less, wherever it stands.
func TestLeast(t *testing.T) {
	if x, is := real.Least(); is || !alike(x, 0) {
		t.Errorf("Least of none: %g, %t", x, is)
	}
	for i, a := range line() {
		if x, is := real.Least(a, a); !is || !alike(x, a) {
			t.Errorf("Least of %g twice: %g, %t", a, x, is)
		}
		for _, b := range line()[i:] {
			for _, l := range [][]float64{{a, b}, {b, a}, {above, b, a, b}} {
				if x, is := real.Least(l...); !is || !alike(x, a) {
					t.Errorf("Least of %v: %g, %t", l, x, is)
				}
			}
		}
	}
}

// Rules: what is handed in is not changed.
func TestListsAreLeft(t *testing.T) {
	l := []float64{3, 1, 2}
	real.Sum(l...)
	real.Least(l...)
	if l[0] != 3 || l[1] != 1 || l[2] != 2 {
		t.Errorf("the list is now %v", l)
	}
}

// Promise 2.5: what was rounded is whole, near, and on its side.
func TestRounded(t *testing.T) {
	for _, x := range line() {
		for _, mode := range modes {
			whole, _ := real.Round(x, mode)
			for _, again := range modes {
				if twice, why := real.Round(whole, again); !real.Same(twice, whole) || why != api.OK {
					t.Errorf("Round of %g by %d, then %d: %g, then %g", x, mode, again, whole, twice)
				}
			}
			if math.IsNaN(x) || math.IsInf(x, 0) {
				continue
			}
			// A difference would be rounded itself: 1 less the least number above 0 is 1.
			near := whole == x || whole-1 < x && x < whole+1
			if !near || math.Signbit(whole) != math.Signbit(x) {
				t.Errorf("Round of %g by %d: %g", x, mode, whole)
			}
			if mode == api.RoundDown && whole > x || mode == api.RoundUp && whole < x || mode == api.RoundZero && math.Abs(whole) > math.Abs(x) {
				t.Errorf("Round of %g by %d is on the wrong side: %g", x, mode, whole)
			}
		}
	}
}
