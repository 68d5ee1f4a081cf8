package lon_test

import (
	"math"
	"math/big"
	"math/rand"
	"testing"

	"noontide/api"
	"noontide/lon"
)

var (
	none    = math.NaN()
	oddNone = math.Float64frombits(0xfff0000000000001)
	below   = math.Inf(-1)
	minus   = math.Copysign(0, -1)
	above   = math.Inf(1)
	tiny    = math.SmallestNonzeroFloat64
	most    = math.MaxFloat64
	modes   = []int{api.RoundDown, api.RoundUp, api.RoundZero, api.RoundEven}
)

// The numbers next to 180 degrees.
var (
	within = math.Nextafter(180, 0)
	beyond = math.Nextafter(180, 360)
)

// alike is told bit by bit, of all but what is no number.
func alike(a, b float64) bool {
	return math.Float64bits(a) == math.Float64bits(b) || math.IsNaN(a) && math.IsNaN(b)
}

// step does one step exactly, and rounds what comes of it to the number that a float64 can be; what is 0 is +0.
func step(a float64, do func(z, x, y *big.Rat) *big.Rat, b float64) float64 {
	z := new(big.Rat)
	n, _ := do(z, new(big.Rat).SetFloat64(a), new(big.Rat).SetFloat64(b)).Float64()
	return n
}

// longitudes are all kinds of those that may be: known ones, the ends, and many between.
func longitudes() []float64 {
	l := []float64{0, minus, tiny, -tiny, 0.001, -0.001, -74, 7.5, -7.5, 22.5, 180, -180, within, -within, 179.999, 1.0 / 480, 3.0 / 480}
	r := rand.New(rand.NewSource(9))
	for range 20000 {
		l = append(l, (r.Float64()*2-1)*180, (r.Float64()*2-1)*math.Pow(2, float64(-r.Intn(60))))
	}
	return l
}

// Promise 9.1: how far the sun is ahead, by each mode.
func TestOff(t *testing.T) {
	tests := []struct {
		degrees float64
		want    [4]int64
	}{
		{-74, [4]int64{-17760, -17760, -17760, -17760}},
		{13.375, [4]int64{3210, 3210, 3210, 3210}},
		{0, [4]int64{0, 0, 0, 0}},
		{minus, [4]int64{0, 0, 0, 0}},
		{0.001, [4]int64{0, 1, 0, 0}},
		{-0.001, [4]int64{-1, 0, 0, 0}},
		{tiny, [4]int64{0, 1, 0, 0}},
		{-tiny, [4]int64{-1, 0, 0, 0}},
		{0.003125, [4]int64{0, 1, 0, 1}},
		// 1/32 of a degree is 7 seconds and a half, 3/32 are 22 and a half: of two as near the even one.
		{1.0 / 32, [4]int64{7, 8, 7, 8}},
		{3.0 / 32, [4]int64{22, 23, 22, 22}},
		{-1.0 / 32, [4]int64{-8, -7, -7, -8}},
		{-3.0 / 32, [4]int64{-23, -22, -22, -22}},
		{180, [4]int64{43200, 43200, 43200, 43200}},
		{-180, [4]int64{-43200, -43200, -43200, -43200}},
		{179.999, [4]int64{43199, 43200, 43199, 43200}},
		{-179.999, [4]int64{-43200, -43199, -43199, -43200}},
	}
	for _, x := range tests {
		for i, mode := range modes {
			if off, why := lon.Off(x.degrees, mode); off != x.want[i] || why != api.OK {
				t.Errorf("Off of %g by %d: %d, %d; not %d", x.degrees, mode, off, why, x.want[i])
			}
		}
	}
}

// Promise 9.1: the product is rounded by itself, then by the mode, as fractions tell it.
func TestOffSteps(t *testing.T) {
	rounders := []func(float64) float64{math.Floor, math.Ceil, math.Trunc, math.RoundToEven}
	for _, degrees := range longitudes() {
		made := step(degrees, (*big.Rat).Mul, 240)
		for i, mode := range modes {
			want := int64(rounders[i](made))
			if off, why := lon.Off(degrees, mode); off != want || why != api.OK {
				t.Fatalf("Off of %g by %d: %d, %d; not %d", degrees, mode, off, why, want)
			}
		}
	}
}

// Promise 9.1: the mode's error goes ahead, then that of what is no number, then that of what is too far off, be it ever so little.
func TestOffErrors(t *testing.T) {
	for _, degrees := range []float64{none, -none, oddNone, 180.5, -180.5, beyond, -beyond, 181, -181, 360, 1 << 50, 1e18, most, -most, below, above} {
		want := api.ErrRange
		if math.IsNaN(degrees) {
			want = api.ErrNaN
		}
		for _, mode := range modes {
			if off, why := lon.Off(degrees, mode); off != 0 || why != want {
				t.Errorf("Off of %g by %d: %d, %d; not 0, %d", degrees, mode, off, why, want)
			}
		}
		if hours, why := lon.Hours(degrees); hours != 0 || why != want {
			t.Errorf("Hours of %g: %d, %d; not 0, %d", degrees, hours, why, want)
		}
	}
	for _, mode := range []int{0, 5, -1, math.MaxInt, math.MinInt} {
		for _, degrees := range []float64{0, -74, minus, none, oddNone, below, above, most, 180.5} {
			if off, why := lon.Off(degrees, mode); off != 0 || why != api.ErrForm {
				t.Errorf("Off of %g by %d: %d, %d", degrees, mode, off, why)
			}
		}
	}
}

// Promises 9.1 and 9.4: longitudes of all that the sun may be ahead, and back.
func TestDegrees(t *testing.T) {
	for off := int64(-43200); off <= 43200; off++ {
		want, _ := big.NewRat(off, 240).Float64()
		degrees, why := lon.Degrees(off)
		if !alike(degrees, want) || why != api.OK {
			t.Fatalf("Degrees of %d: %g, %d; not %g", off, degrees, why, want)
		}
		for _, mode := range modes {
			back, why := lon.Off(degrees, mode)
			if why != api.OK || back < off-1 || back > off+1 || mode == api.RoundEven && back != off {
				t.Fatalf("Off of Degrees of %d by %d: %d, %d", off, mode, back, why)
			}
		}
	}
}

// Promise 9.1: what the sun is nowhere ahead.
func TestDegreesErrors(t *testing.T) {
	for _, off := range []int64{43201, -43201, 86400, -86400, math.MaxInt64, math.MinInt64} {
		if degrees, why := lon.Degrees(off); !alike(degrees, 0) || why != api.ErrRange {
			t.Errorf("Degrees of %d: %g, %d", off, degrees, why)
		}
	}
}

// Promise 9.2: longitudes once round, of numbers of all kinds.
func TestNorm(t *testing.T) {
	tests := []struct{ degrees, want float64 }{
		{190, -170}, {-190, 170}, {180, -180}, {-180, -180}, {179, 179}, {-179, -179}, {360, 0}, {-360, 0}, {540, -180}, {-540, -180}, {539.5, 179.5}, {725, 5}, {-725, -5},
		{0, 0}, {minus, minus}, {tiny, tiny}, {-tiny, -tiny}, {7.5, 7.5}, {36000090, 90},
		{none, none}, {oddNone, none}, {below, none}, {above, none},
		// 180 more than that is rounded to 360: so it is taken for one time more round.
		{within, within - 360}, {-beyond, 360 - beyond},
	}
	for _, x := range tests {
		if degrees := lon.Norm(x.degrees); !alike(degrees, x.want) {
			t.Errorf("Norm of %g: %g, not %g", x.degrees, degrees, x.want)
		}
	}
}

// Promise 9.2: each step is rounded by itself, as fractions tell it; so is the product of more turns than a float64 has places for.
func TestNormSteps(t *testing.T) {
	r := rand.New(rand.NewSource(92))
	for range 40000 {
		degrees := (r.Float64()*2 - 1) * math.Pow(2, float64(r.Intn(1000)))
		turns := math.Floor(step(step(degrees, (*big.Rat).Add, 180), (*big.Rat).Quo, 360))
		want := step(degrees, (*big.Rat).Sub, step(turns, (*big.Rat).Mul, 360))
		if norm := lon.Norm(degrees); !alike(norm, want) {
			t.Fatalf("Norm of %g: %g, not %g", degrees, norm, want)
		}
	}
}

// Promise 9.3: hours of ships' clocks, of two as near the even one.
func TestHours(t *testing.T) {
	tests := []struct {
		degrees float64
		want    int
	}{
		{0, 0}, {minus, 0}, {tiny, 0}, {-tiny, 0}, {7.5, 0}, {-7.5, 0}, {7.51, 1}, {-7.51, -1}, {15, 1}, {22.5, 2}, {-22.5, -2}, {22.49, 1}, {37.5, 2}, {-37.5, -2}, {37.51, 3},
		{-74, -5}, {90, 6}, {172.5, 12}, {-172.5, -12}, {172.4, 11}, {within, 12}, {180, 12}, {-180, -12},
	}
	for _, x := range tests {
		if hours, why := lon.Hours(x.degrees); hours != x.want || why != api.OK {
			t.Errorf("Hours of %g: %d, %d; not %d", x.degrees, hours, why, x.want)
		}
	}
	for _, degrees := range longitudes() {
		want := int(math.RoundToEven(step(degrees, (*big.Rat).Quo, 15)))
		if hours, why := lon.Hours(degrees); hours != want || why != api.OK {
			t.Fatalf("Hours of %g: %d, %d; not %d", degrees, hours, why, want)
		}
	}
}

// Promise 9.5: east and west are alike.
func TestEastAndWest(t *testing.T) {
	for _, degrees := range longitudes() {
		for _, mode := range []int{api.RoundEven, api.RoundZero} {
			east, why := lon.Off(degrees, mode)
			west, whyWest := lon.Off(-degrees, mode)
			if west != -east || why != api.OK || whyWest != api.OK {
				t.Fatalf("Off of %g by %d: %d, %d; west of it %d, %d", degrees, mode, east, why, west, whyWest)
			}
		}
	}
}
