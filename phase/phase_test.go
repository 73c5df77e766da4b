package phase_test

import (
	"math"
	"testing"

	"cellaret/api"
	"cellaret/phase"
)

var (
	nan   = math.NaN()
	inf   = math.Inf(1)
	minus = math.Copysign(0, -1)
	odd   = []complex128{complex(nan, 0), complex(0, nan), complex(inf, 1), complex(1, -inf), complex(nan, inf)}
	good  = []complex128{0, 1, complex(-3, 4), complex(minus, 0), complex(0.1, minus), complex(math.MaxFloat64, -1)}
)

func TestCounts(t *testing.T) { // P7.1
	for _, z := range odd {
		if phase.Counts(z) {
			t.Error(z)
		}
	}
	for _, z := range good {
		if !phase.Counts(z) {
			t.Error(z)
		}
	}
}

func TestSame(t *testing.T) { // P7.1
	other := math.Float64frombits(math.Float64bits(nan) ^ 1)
	for _, c := range []struct {
		a, b complex128
		same bool
	}{
		{1, 1, true}, {complex(0, 0), complex(minus, 0), false}, {complex(0, 0), complex(0, minus), false}, {complex(nan, 1), complex(other, 1), true},
		{complex(nan, 1), complex(nan, 2), false}, {complex(nan, 1), complex(1, 1), false}, {complex(inf, 0), complex(-inf, 0), false}, {complex(inf, nan), complex(inf, nan), true},
	} {
		if phase.Same(c.a, c.b) != c.same || phase.Same(c.b, c.a) != c.same {
			t.Error(c.a, c.b)
		}
	}
}

func TestTurn(t *testing.T) { // P7.1
	for _, c := range []struct {
		z complex128
		n int
		w complex128
	}{
		{complex(3, 4), 0, complex(3, 4)}, {complex(3, 4), 1, complex(-4, 3)}, {complex(3, 4), 2, complex(-3, -4)}, {complex(3, 4), 3, complex(4, -3)},
		{complex(3, 4), 4, complex(3, 4)}, {complex(3, 4), -1, complex(4, -3)}, {complex(3, 4), -2, complex(-3, -4)}, {complex(3, 4), -7, complex(-4, 3)},
		{complex(5, 0), 1, complex(minus, 5)}, {complex(5, 0), 2, complex(-5, minus)}, {complex(5, 0), 3, complex(0, -5)}, {complex(0, 0), 1, complex(minus, 0)},
		{complex(nan, inf), 1, complex(-inf, nan)}, {complex(3, 4), math.MinInt, complex(3, 4)}, {complex(3, 4), math.MaxInt, complex(4, -3)},
	} {
		if !phase.Same(phase.Turn(c.z, c.n), c.w) {
			t.Error(c.z, c.n, phase.Turn(c.z, c.n))
		}
	}
}

func TestAdd(t *testing.T) { // P7.2
	for _, c := range []struct {
		z          complex128
		at, weight int
		w          complex128
		e          api.Errno
	}{
		{complex(1, 2), 0, 5, complex(6, 2), 0}, {complex(1, 2), 1, 5, complex(1, 7), 0}, {complex(1, 2), 6, 5, complex(-4, 2), 0}, {complex(1, 2), -1, 5, complex(1, -3), 0},
		{complex(1, 2), 0, -1, 0, api.ErrArg}, {complex(1, 2), 0, 1<<20 + 1, 0, api.ErrArg}, {0, 2, 1 << 20, complex(-1048576, 0), 0}, {0, 0, 0, 0, 0},
		{complex(minus, minus), 1, 0, complex(minus, 0), 0}, {complex(nan, 0), 0, -1, 0, api.ErrPhase}, {complex(0, inf), 0, 1, 0, api.ErrPhase},
	} {
		if w, e := phase.Add(c.z, c.at, c.weight); !phase.Same(w, c.w) || e != c.e {
			t.Error(c.z, c.at, c.weight, w, int(e))
		}
	}
}

func TestNormMul(t *testing.T) { // P7.2
	if n, e := phase.Norm(complex(-3, 4)); n != 25 || e != api.OK {
		t.Error(n)
	}
	if n, e := phase.Norm(complex(1e200, 0)); !math.IsInf(n, 1) || e != api.OK {
		t.Error(n)
	}
	if z, e := phase.Mul(complex(1, 2), complex(3, 5)); z != complex(-7, 11) || e != api.OK {
		t.Error(z)
	}
	// Each product is rounded by itself: nothing is left of 1 and a square's last bit.
	f := 1 + math.Ldexp(1, -30)
	square := f * f
	if z, _ := phase.Mul(complex(f, square), complex(f, 1)); real(z) != 0 {
		t.Error(z)
	}
	for _, z := range odd {
		if n, e := phase.Norm(z); n != 0 || e != api.ErrPhase {
			t.Error(z, n)
		}
		if w, e := phase.Mul(z, 1); w != 0 || e != api.ErrPhase {
			t.Error(z, w)
		}
		if w, e := phase.Mul(1, z); w != 0 || e != api.ErrPhase {
			t.Error(z, w)
		}
	}
}

func TestSpectrum(t *testing.T) { // P7.3
	for _, c := range []struct {
		l    [4]int
		x    [4]complex128
		beat int
	}{
		{[4]int{1, 0, 0, 0}, [4]complex128{1, 1, 1, 1}, 1},
		{[4]int{5, 0, 5, 0}, [4]complex128{10, 0, 10, 0}, 2},
		{[4]int{0, 0, 0, 0}, [4]complex128{}, 0},
		{[4]int{3, 3, 3, 3}, [4]complex128{12, 0, 0, 0}, 0},
		{[4]int{1, 2, 3, 5}, [4]complex128{11, complex(-2, 3), -3, complex(-2, -3)}, 1},
		{[4]int{0, 1 << 20, 0, 1 << 20}, [4]complex128{1 << 21, 0, -(1 << 21), 0}, 2},
		{[4]int{0, 7, 0, 0}, [4]complex128{7, complex(0, -7), -7, complex(0, 7)}, 1},
	} {
		x, e := phase.Spectrum(c.l)
		if x != c.x || e != api.OK {
			t.Error(c.l, x)
		}
		if b, e := phase.Beat(c.l); b != c.beat || e != api.OK {
			t.Error(c.l, b)
		}
		y, e := phase.Back(x) // P7.4
		all, squares := 0.0, 0
		for i, z := range y {
			if real(z) != float64(c.l[i]) || imag(z) != 0 || e != api.OK {
				t.Error(c.l, y)
			}
			n, _ := phase.Norm(x[i])
			all += n
			squares += c.l[i] * c.l[i]
		}
		if all != float64(4*squares) { // P7.5
			t.Error(c.l, all)
		}
	}
	for i := range 4 {
		for _, n := range []int{-1, 1<<20 + 1, math.MinInt, math.MaxInt} {
			var l [4]int
			l[i] = n
			if x, e := phase.Spectrum(l); x != [4]complex128{} || e != api.ErrArg {
				t.Error(l)
			}
			if b, e := phase.Beat(l); b != 0 || e != api.ErrArg {
				t.Error(l)
			}
		}
	}
}

func TestSigns(t *testing.T) { // P7.3: sums go from (0, 0) on, in order
	x, _ := phase.Spectrum([4]int{})
	for k, z := range x {
		if !phase.Same(z, 0) {
			t.Error(k, z)
		}
	}
	y, _ := phase.Back([4]complex128{complex(minus, minus), complex(minus, minus), complex(minus, minus), complex(minus, minus)})
	for k, z := range y {
		if !phase.Same(z, 0) {
			t.Error(k, z)
		}
	}
	z, _ := phase.Back([4]complex128{4, complex(0, 4), 0, 0})
	if z != [4]complex128{complex(1, 1), 0, complex(1, -1), 2} {
		t.Error(z)
	}
}

func TestBack(t *testing.T) { // P7.3
	for _, z := range odd {
		for i := range 4 {
			var x [4]complex128
			x[i] = z
			if y, e := phase.Back(x); y != [4]complex128{} || e != api.ErrPhase {
				t.Error(x, y)
			}
		}
	}
}

func TestRound(t *testing.T) { // P7.6
	for _, z := range good {
		w := z
		for range 4 {
			w = phase.Turn(w, 1)
		}
		if !phase.Same(w, z) {
			t.Error(z, w)
		}
	}
}
