package julian_test

import (
	"math"
	"math/big"
	"math/rand"
	"testing"

	"noontide/api"
	"noontide/julian"
)

var (
	none    = math.NaN()
	oddNone = math.Float64frombits(0xfff0000000000001)
	below   = math.Inf(-1)
	minus   = math.Copysign(0, -1)
	above   = math.Inf(1)
	tiny    = math.SmallestNonzeroFloat64
	most    = math.MaxFloat64
	modes   = []int{api.RoundDown, api.RoundUp, api.RoundZero, api.RoundEven}
)

// alike is told bit by bit, of all but what is no number.
func alike(a, b float64) bool {
	return math.Float64bits(a) == math.Float64bits(b) || math.IsNaN(a) && math.IsNaN(b)
}

// nearest rounds what is told exactly to the number that a float64 can be; what is 0 is +0.
func nearest(exact *big.Rat) float64 {
	x, _ := exact.Float64()
	return x
}

// stepped goes the steps of Of by fractions, each step rounded by itself.
func stepped(t int64) float64 {
	x := new(big.Rat).SetFloat64(nearest(new(big.Rat).SetInt64(t)))
	x.SetFloat64(nearest(x.Quo(x, big.NewRat(86400, 1))))
	return nearest(x.Add(x, big.NewRat(4881175, 2)))
}

// seconds are numbers of seconds: known ones, the ends, and many between.
func seconds() []int64 {
	l := []int64{
		0, 1, -1, 43200, -43200, 86399, 86400, 951868801, -210866760000, -210866760001, -210866759999, api.MinT, api.MaxT, api.MinT + 1, api.MaxT - 1,
		math.MaxInt64, math.MinInt64, math.MaxInt64 - 1, 1<<53 + 1, -1<<53 - 1, 1<<62 + 12345,
	}
	r := rand.New(rand.NewSource(8))
	for range 20000 {
		l = append(l, within(r), int64(r.Uint64()))
	}
	return l
}

// within is some second from api.MinT to api.MaxT.
func within(r *rand.Rand) int64 {
	return api.MinT + r.Int63n(api.MaxT-api.MinT+1)
}

// Promise 8.1: day numbers of any second, each step rounded by itself.
func TestOf(t *testing.T) {
	tests := map[int64]float64{
		0: 2440587.5, 43200: 2440588, 86400: 2440588.5, -43200: 2440587, -21600: 2440587.25, -210866760000: 0, 946728000: 2451545, -3506716800: 2400000.5,
	}
	for second, want := range tests {
		if day := julian.Of(second); !alike(day, want) {
			t.Errorf("Of %d: %g, not %g", second, day, want)
		}
	}
	for _, second := range seconds() {
		if day, want := julian.Of(second), stepped(second); !alike(day, want) {
			t.Errorf("Of %d: %g, not %g", second, day, want)
		}
	}
}

// Promise 8.1: seconds of day numbers, by each mode.
func TestSecs(t *testing.T) {
	const quarter = 1.0 / (86400 * 4) // of a second, in days
	tests := []struct {
		day  float64
		want [4]int64
	}{
		{2440587.25, [4]int64{-21600, -21600, -21600, -21600}},
		{2440587.5, [4]int64{0, 0, 0, 0}},
		{2440588, [4]int64{43200, 43200, 43200, 43200}},
		{0, [4]int64{-210866760000, -210866760000, -210866760000, -210866760000}},
		{minus, [4]int64{-210866760000, -210866760000, -210866760000, -210866760000}},
		{-tiny, [4]int64{-210866760000, -210866760000, -210866760000, -210866760000}},
		{2440587.5 + quarter, [4]int64{0, 1, 0, 0}},
		{2440587.5 - 3*quarter, [4]int64{-1, 0, 0, -1}},
		// 1/4096 of a day is 21 seconds and 3/32 of one.
		{2440587.5 + 1.0/4096, [4]int64{21, 22, 21, 21}},
		{2440587.5 - 1.0/4096, [4]int64{-22, -21, -21, -21}},
		// 1/256 of a day is 337 and a half, 3/256 are 1012 and a half: of two as near the even one.
		{2440587.5 + 1.0/256, [4]int64{337, 338, 337, 338}},
		{2440587.5 + 3.0/256, [4]int64{1012, 1013, 1012, 1012}},
		{2440587.5 - 1.0/256, [4]int64{-338, -337, -337, -338}},
		{2440587.5 - 3.0/256, [4]int64{-1013, -1012, -1012, -1012}},
	}
	for _, x := range tests {
		for i, mode := range modes {
			if n, why := julian.Secs(x.day, mode); n != x.want[i] || why != api.OK {
				t.Errorf("Secs of %g by %d: %d, %d; not %d", x.day, mode, n, why, x.want[i])
			}
		}
	}
}

// Promise 8.1: the two steps of Secs are rounded by themselves, as fractions tell it.
func TestSecsSteps(t *testing.T) {
	r := rand.New(rand.NewSource(81))
	for range 20000 {
		day := (r.Float64() - 0.5) * math.Pow(2, float64(r.Intn(46)))
		x := new(big.Rat).SetFloat64(day)
		x.SetFloat64(nearest(x.Sub(x, big.NewRat(4881175, 2))))
		want := int64(math.Floor(nearest(x.Mul(x, big.NewRat(86400, 1)))))
		if n, why := julian.Secs(day, api.RoundDown); n != want || why != api.OK {
			t.Fatalf("Secs of %g: %d, %d; not %d", day, n, why, want)
		}
	}
}

// Promise 8.1: the mode's error goes ahead, then that of what is no number, then that of what is too far off.
func TestSecsErrors(t *testing.T) {
	for _, day := range []float64{0, 2440587.5, minus, none, oddNone, below, above, most} {
		for _, mode := range []int{0, 5, -1, math.MaxInt, math.MinInt} {
			if n, why := julian.Secs(day, mode); n != 0 || why != api.ErrForm {
				t.Errorf("Secs of %g by %d: %d, %d", day, mode, n, why)
			}
		}
	}
	for _, mode := range modes {
		for _, day := range []float64{none, -none, oddNone} {
			if n, why := julian.Secs(day, mode); n != 0 || why != api.ErrNaN {
				t.Errorf("Secs of %g by %d: %d, %d", day, mode, n, why)
			}
		}
		for _, day := range []float64{below, above, most, -most, 1e300, 2e14, -2e14} {
			if n, why := julian.Secs(day, mode); n != 0 || why != api.ErrRange {
				t.Errorf("Secs of %g by %d: %d, %d", day, mode, n, why)
			}
		}
		for _, day := range []float64{1e14, -1e14} {
			if n, why := julian.Secs(day, mode); n == 0 || why != api.OK {
				t.Errorf("Secs of %g by %d: %d, %d", day, mode, n, why)
			}
		}
	}
}

// Promise 8.1: modified day numbers, of numbers of all kinds.
func TestModified(t *testing.T) {
	tests := []struct{ day, want float64 }{
		{2440587.5, 40587}, {2400000.5, 0}, {2400000.25, -0.25}, {0, -2400000.5}, {minus, -2400000.5}, {tiny, -2400000.5},
		{none, none}, {oddNone, none}, {below, below}, {above, above}, {most, most}, {-most, -most}, {1 << 80, 1 << 80},
	}
	for _, x := range tests {
		if day := julian.Modified(x.day); !alike(day, x.want) {
			t.Errorf("Modified of %g: %g, not %g", x.day, day, x.want)
		}
	}
}

// Promise 8.2: the two parts, of numbers of all kinds.
func TestParts(t *testing.T) {
	tests := []struct{ day, whole, rest float64 }{
		{-0.25, -1, 0.75}, {0.25, 0, 0.25}, {2440587.75, 2440587, 0.75}, {-2.5, -3, 0.5}, {2.5, 2, 0.5},
		{0, 0, 0}, {minus, minus, 0}, {7, 7, 0}, {-7, -7, 0}, {most, most, 0}, {-most, -most, 0}, {1 << 53, 1 << 53, 0},
		{tiny, 0, tiny}, {-tiny, -1, 1}, {0.9999999999999999, 0, 0.9999999999999999},
		{none, none, none}, {oddNone, none, none}, {below, below, none}, {above, above, none},
	}
	for _, x := range tests {
		if whole, rest := julian.Parts(x.day); !alike(whole, x.whole) || !alike(rest, x.rest) {
			t.Errorf("Parts of %g: %g and %g, not %g and %g", x.day, whole, rest, x.whole, x.rest)
		}
	}
}

// Promise 8.3: there and back, in the years that are told of.
func TestThereAndBack(t *testing.T) {
	for _, second := range seconds() {
		if second < api.MinT || second > api.MaxT {
			continue
		}
		if back, why := julian.Secs(julian.Of(second), api.RoundEven); back != second || why != api.OK {
			t.Fatalf("Secs of Of %d: %d, %d", second, back, why)
		}
	}
}

// Promise 8.4: later seconds have no lesser day numbers, and a day is 1, but for what is rounded.
func TestInOrder(t *testing.T) {
	const rounded = 1.0 / (1 << 28) // more than the day numbers of these years are off
	r := rand.New(rand.NewSource(84))
	for range 20000 {
		a := within(r)
		for _, b := range [2]int64{a + r.Int63n(3), within(r)} {
			if first, last := min(a, b), max(a, b); julian.Of(first) > julian.Of(last) {
				t.Fatalf("Of %d: %g; of %d: %g", first, julian.Of(first), last, julian.Of(last))
			}
		}
		if step := julian.Of(a+86400) - julian.Of(a); math.Abs(step-1) > rounded {
			t.Fatalf("a day behind %d: %g more", a, step)
		}
	}
}
