package gf_test

import (
	"math"
	"testing"

	"cellaret/gf"
)

// product is the definition: the sums' product, less multiples of the polynomial 11b.
func product(a, b gf.E) gf.E {
	p := 0
	for i := range 8 {
		for j := range 8 {
			if a>>i&1 == 1 && b>>j&1 == 1 {
				p ^= 1 << (i + j)
			}
		}
	}
	for k := 14; k >= 8; k-- {
		if p>>k&1 == 1 {
			p ^= 0x11b << (k - 8)
		}
	}
	return gf.E(p)
}

func TestAddMulTwice(t *testing.T) { // P2.1
	for i := range 256 {
		a := gf.E(i)
		if a.Twice() != product(a, 2) {
			t.Error("Twice", i)
		}
		for j := range 256 {
			b := gf.E(j)
			if a.Add(b) != a^b || a.Mul(b) != product(a, b) {
				t.Fatal(i, j)
			}
		}
	}
	if gf.E(0x57).Mul(0x83) != 0xc1 || gf.E(0x57).Mul(0x13) != 0xfe {
		t.Error("examples")
	}
}

func TestPow(t *testing.T) { // P2.2
	for i := range 256 {
		a, p := gf.E(i), gf.E(1)
		for n := range 300 {
			if a.Pow(n) != p {
				t.Fatal(i, n, a.Pow(n), p)
			}
			if a.Inv().Pow(n) != a.Pow(-n) {
				t.Fatal(i, -n)
			}
			p = product(p, a)
		}
	}
	if gf.E(0).Pow(-1) != 0 || gf.E(0).Pow(math.MinInt) != 0 || gf.E(0).Pow(255) != 0 || gf.E(0).Pow(0) != 1 {
		t.Error("powers of 0")
	}
	a := gf.E(0x35)
	if a.Pow(math.MaxInt) != a.Pow(math.MaxInt%255) || a.Pow(math.MinInt) != a.Inv().Pow(-(math.MinInt%255)) {
		t.Error("great powers")
	}
}

func TestInv(t *testing.T) { // P2.2
	if gf.E(0x53).Inv() != 0xca || gf.E(0).Inv() != 0 || gf.E(1).Inv() != 1 {
		t.Error("Inv")
	}
	for i := 1; i < 256; i++ {
		if gf.E(i).Mul(gf.E(i).Inv()) != 1 {
			t.Error(i)
		}
	}
}

func TestTurn(t *testing.T) { // P2.3
	for _, c := range []struct {
		a gf.E
		n int
		b gf.E
	}{
		{0x81, 1, 0x03}, {0x81, -1, 0xc0}, {0x12, 4, 0x21}, {0x12, 8, 0x12}, {0x12, 0, 0x12}, {0x0f, 9, 0x1e},
		{0x01, -9, 0x80}, {0x01, math.MinInt, 0x01}, {0x01, math.MaxInt, 0x80},
	} {
		if c.a.Turn(c.n) != c.b {
			t.Errorf("%x by %d: %x", c.a, c.n, c.a.Turn(c.n))
		}
	}
}

func TestColumn(t *testing.T) { // P2.3
	if c := gf.Column([4]gf.E{2, 1, 1, 3}, [4]gf.E{0xdb, 0x13, 0x53, 0x45}); c != [4]gf.E{0x8e, 0x4d, 0xa1, 0xbc} {
		t.Errorf("%x", c)
	}
	y := [4]gf.E{0, 1, 0, 0}
	if c := gf.Column(y, [4]gf.E{1, 2, 3, 4}); c != [4]gf.E{4, 1, 2, 3} {
		t.Error(c)
	}
	if c := gf.Column([4]gf.E{1, 2, 3, 4}, y); c != [4]gf.E{4, 1, 2, 3} {
		t.Error(c)
	}
}

func TestRow(t *testing.T) { // P2.3
	a, b := []gf.E{0x57, 2, 9}, []gf.E{0x83, 3}
	if gf.Row(a, b) != 0xc1^6 || gf.Row(b, a) != 0xc1^6 || gf.Row(nil, a) != 0 || gf.Row(a, nil) != 0 {
		t.Error("Row")
	}
}

func TestField(t *testing.T) { // P2.4
	some := []gf.E{0, 1, 2, 3, 0x1b, 0x53, 0x80, 0xca, 0xff}
	for i := range 256 {
		a := gf.E(i)
		for _, b := range some {
			if a.Mul(b) != b.Mul(a) || a.Add(b) != b.Add(a) {
				t.Fatal(a, b)
			}
			for _, c := range some {
				if a.Mul(b.Add(c)) != a.Mul(b).Add(a.Mul(c)) || a.Mul(b).Mul(c) != a.Mul(b.Mul(c)) || a.Add(b).Add(c) != a.Add(b.Add(c)) {
					t.Fatal(a, b, c)
				}
			}
		}
	}
}

func TestRoots(t *testing.T) { // P2.5
	for i := range 256 {
		if gf.E(i).Pow(256) != gf.E(i) {
			t.Error(i)
		}
	}
}
