package num_test

import (
	"math/big"
	"math/rand"
	"strings"
	"testing"

	"noontide/api"
	"noontide/num"
)

// samples are the edges, and numbers of all lengths, always the same ones.
func samples() []int64 {
	edges := []int64{0, 1, 2, 3, 7, 10, 1<<31 - 1, 1 << 31, 1<<32 - 1, 1 << 32, 1<<32 + 1, 3037000499, 3037000500, 1 << 62, num.Great - 1, num.Great}
	var l []int64
	for _, n := range edges {
		l = append(l, n, -n)
	}
	l = append(l, num.Least, num.Least+1)
	r := rand.New(rand.NewSource(1))
	for bits := range 63 {
		n := r.Int63() >> bits
		l = append(l, n, -n)
	}
	return l
}

func bigDiv(a, b int64) (q, r *big.Int) {
	q, r = new(big.Int), new(big.Int)
	q.QuoRem(big.NewInt(a), big.NewInt(b), r)
	if r.Sign() != 0 && r.Sign() != big.NewInt(b).Sign() {
		q.Sub(q, big.NewInt(1))
		r.Add(r, big.NewInt(b))
	}
	return q, r
}

func same(t *testing.T, call string, a, b, n int64, why api.Errno, want *big.Int) {
	t.Helper()
	if want.IsInt64() {
		if n != want.Int64() || why != api.OK {
			t.Errorf("%s of %d and %d: %d, %d; not %s", call, a, b, n, why, want)
		}
	} else if n != 0 || why != api.ErrRange {
		t.Errorf("%s of %d and %d: %d, %d; not 0, ErrRange", call, a, b, n, why)
	}
}

// Promise 1.1: sums, differences and products are those of numbers without ends, or ErrRange.
func TestAddSubMul(t *testing.T) {
	for _, a := range samples() {
		for _, b := range samples() {
			x, y := big.NewInt(a), big.NewInt(b)
			n, why := num.Add(a, b)
			same(t, "Add", a, b, n, why, new(big.Int).Add(x, y))
			n, why = num.Sub(a, b)
			same(t, "Sub", a, b, n, why, new(big.Int).Sub(x, y))
			n, why = num.Mul(a, b)
			same(t, "Mul", a, b, n, why, new(big.Int).Mul(x, y))
		}
	}
}

// Promise 1.1: the last products that fit, and the first that do not, on all sides.
func TestMulEdges(t *testing.T) {
	tests := []struct {
		a, b, n int64
		why     api.Errno
	}{
		{num.Least, 1, num.Least, api.OK},
		{num.Least, -1, 0, api.ErrRange},
		{-1, num.Least, 0, api.ErrRange},
		{num.Least, 0, 0, api.OK},
		{0, num.Least, 0, api.OK},
		{num.Least, num.Least, 0, api.ErrRange},
		{num.Great, -1, -num.Great, api.OK},
		{num.Great, num.Great, 0, api.ErrRange},
		{1 << 62, 2, 0, api.ErrRange},
		{1 << 62, -2, num.Least, api.OK},
		{1 << 31, -1 << 32, num.Least, api.OK},
		{1 << 31, 1 << 32, 0, api.ErrRange},
		{1<<32 - 1, 1<<32 - 1, 0, api.ErrRange},
		{1 << 32, 1 << 32, 0, api.ErrRange},
		{3037000499, 3037000499, 9223372030926249001, api.OK},
		{3037000500, 3037000500, 0, api.ErrRange},
		{7, 1317624576693539401, num.Great, api.OK},
		{3, 3074457345618258603, 0, api.ErrRange},
		{3, -3074457345618258603, 0, api.ErrRange},
	}
	for _, x := range tests {
		if n, why := num.Mul(x.a, x.b); n != x.n || why != x.why {
			t.Errorf("Mul of %d and %d: %d, %d", x.a, x.b, n, why)
		}
	}
}

// Promise 1.1: quotients are rounded down, what is left has b's sign.
func TestDiv(t *testing.T) {
	for _, a := range samples() {
		for _, b := range samples() {
			q, r, why := num.Div(a, b)
			if b == 0 {
				if q != 0 || r != 0 || why != api.ErrRange {
					t.Errorf("Div of %d by 0: %d, %d, %d", a, q, r, why)
				}
				continue
			}
			wantQ, wantR := bigDiv(a, b)
			if !wantQ.IsInt64() {
				wantR.SetInt64(0)
			}
			same(t, "Div", a, b, q, why, wantQ)
			if r != wantR.Int64() {
				t.Errorf("Div of %d by %d: %d is left, not %s", a, b, r, wantR)
			}
		}
	}
}

// Promise 1.1: the examples, and the one quotient that is too great.
func TestDivExamples(t *testing.T) {
	tests := []struct {
		a, b, q, r int64
		why        api.Errno
	}{
		{-7, 2, -4, 1, api.OK},
		{7, -2, -4, -1, api.OK},
		{-7, -2, 3, -1, api.OK},
		{-6, 2, -3, 0, api.OK},
		{num.Least, -1, 0, 0, api.ErrRange},
		{num.Least, 1, num.Least, 0, api.OK},
		{num.Least, 2, -1 << 62, 0, api.OK},
		{num.Great, num.Least, -1, -1, api.OK},
		{0, 0, 0, 0, api.ErrRange},
	}
	for _, x := range tests {
		if q, r, why := num.Div(x.a, x.b); q != x.q || r != x.r || why != x.why {
			t.Errorf("Div of %d by %d: %d, %d, %d", x.a, x.b, q, r, why)
		}
	}
}

// Promise 1.2: low goes ahead of high, also where it is above it.
func TestClamp(t *testing.T) {
	tests := []struct{ n, low, high, want int64 }{
		{5, 1, 3, 3},
		{0, 1, 3, 1},
		{2, 1, 3, 2},
		{1, 1, 3, 1},
		{3, 1, 3, 3},
		{5, 7, 3, 7},
		{8, 7, 3, 3},
		{7, 7, 3, 3},
		{num.Least, num.Least, num.Great, num.Least},
		{num.Great, num.Least, num.Great, num.Great},
		{num.Great, num.Least, num.Least, num.Least},
	}
	for _, x := range tests {
		if n := num.Clamp(x.n, x.low, x.high); n != x.want {
			t.Errorf("Clamp of %d, %d, %d: %d", x.n, x.low, x.high, n)
		}
	}
}

// Promise 1.3: texts are decimal digits.
func TestText(t *testing.T) {
	tests := []struct {
		n    int64
		text string
	}{
		{0, "0"}, {7, "7"}, {-7, "-7"}, {1000, "1000"}, {num.Great, "9223372036854775807"}, {num.Least, "-9223372036854775808"},
	}
	for _, x := range tests {
		if text := num.Text(x.n); text != x.text {
			t.Errorf("Text of %d: %q", x.n, text)
		}
	}
}

// Promise 1.3: what is no number's text, and what is one of a number that is too far.
func TestReadErrors(t *testing.T) {
	many := strings.Repeat("9", 1<<20)
	tests := []struct {
		s   string
		why api.Errno
	}{
		{"", api.ErrNumber}, {"-", api.ErrNumber}, {"--1", api.ErrNumber}, {"+", api.ErrNumber}, {"+1", api.ErrNumber},
		{"-0", api.ErrNumber}, {"00", api.ErrNumber}, {"007", api.ErrNumber}, {"-01", api.ErrNumber}, {"-00", api.ErrNumber},
		{" 1", api.ErrNumber}, {"1 ", api.ErrNumber}, {"1-", api.ErrNumber}, {"1.0", api.ErrNumber}, {"1e3", api.ErrNumber},
		{"0x1", api.ErrNumber}, {"1_000", api.ErrNumber}, {"/", api.ErrNumber}, {":", api.ErrNumber}, {"1\x00", api.ErrNumber},
		{"\u0661", api.ErrNumber}, {"1\xff", api.ErrNumber}, {"\u22121", api.ErrNumber},
		{"9223372036854775808", api.ErrRange}, {"-9223372036854775809", api.ErrRange}, {"10000000000000000000", api.ErrRange},
		{"18446744073709551616", api.ErrRange}, {"18446744073709551617", api.ErrRange},
		{many, api.ErrRange}, {"-" + many, api.ErrRange}, {many + "x", api.ErrNumber}, {"0" + many, api.ErrNumber},
		{strings.Repeat("0", 1<<20), api.ErrNumber}, {strings.Repeat("-", 1<<20), api.ErrNumber},
	}
	for _, x := range tests {
		if n, why := num.Read(x.s); n != 0 || why != x.why {
			t.Errorf("Read of %.30q: %d, %d; not 0, %d", x.s, n, why, x.why)
		}
	}
}

// Promise 1.4: Read of Text is the number.
func TestReadOfText(t *testing.T) {
	for _, n := range samples() {
		if back, why := num.Read(num.Text(n)); back != n || why != api.OK {
			t.Errorf("Read of Text of %d: %d, %d", n, back, why)
		}
	}
}

// Promise 1.4: Text of what is read is the text, of all short texts of these bytes.
func TestTextOfRead(t *testing.T) {
	texts := []string{""}
	for range 4 {
		for _, s := range texts {
			for _, c := range "-+01 9a" {
				text := s + string(c)
				texts = append(texts, text)
				n, why := num.Read(text)
				if why == api.OK && num.Text(n) != text {
					t.Errorf("Text of Read of %q: %q", text, num.Text(n))
				}
			}
		}
	}
}

// Promise 1.5: what is told without an error is exact.
func TestExact(t *testing.T) {
	for _, a := range samples() {
		for _, b := range samples() {
			if sum, why := num.Add(a, b); why == api.OK {
				if back, why := num.Sub(sum, b); back != a || why != api.OK {
					t.Errorf("Sub of Add of %d and %d: %d, %d", a, b, back, why)
				}
			}
			q, r, why := num.Div(a, b)
			if why != api.OK {
				continue
			}
			// The product alone may be below Least, if what is left is not 0: so it is taken without ends.
			back := new(big.Int).Mul(big.NewInt(q), big.NewInt(b))
			if back.Add(back, big.NewInt(r)); !back.IsInt64() || back.Int64() != a {
				t.Errorf("Div of %d by %d: %d and %d make %s", a, b, q, r, back)
			}
		}
	}
}
