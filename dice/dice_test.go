package dice_test

import (
	"math"
	"testing"

	"cellaret/api"
	"cellaret/dice"
)

func TestBelow(t *testing.T) { // P8.1
	for _, c := range []struct {
		draw, n, k, left int
		e                api.Errno
	}{
		{17, 5, 2, 3, 0}, {0, 1, 0, 0, 0}, {9, 1, 0, 9, 0}, {math.MaxInt, 1 << 20, 1<<20 - 1, math.MaxInt >> 20, 0},
		{-1, 0, 0, 0, api.ErrRange}, {math.MinInt, 5, 0, 0, api.ErrRange}, {1, 0, 0, 0, api.ErrArg}, {1, -3, 0, 0, api.ErrArg}, {1, 1<<20 + 1, 0, 0, api.ErrArg},
	} {
		if k, left, e := dice.Below(c.draw, c.n); k != c.k || left != c.left || e != c.e {
			t.Error(c, k, left, int(e))
		}
	}
}

func TestChance(t *testing.T) { // P8.1
	for _, c := range []struct {
		draw, num, den int
		yes            bool
		left           int
		e              api.Errno
	}{
		{17, 3, 5, true, 3, 0}, {17, 2, 5, false, 3, 0}, {4, 5, 5, true, 0, 0}, {0, 0, 5, false, 0, 0}, {7, 0, 1, false, 7, 0},
		{-1, 9, 0, false, 0, api.ErrRange}, {1, 0, 0, false, 0, api.ErrArg}, {1, 0, 1<<20 + 1, false, 0, api.ErrArg},
		{1, -1, 5, false, 0, api.ErrArg}, {1, 6, 5, false, 0, api.ErrArg}, {0, 1 << 20, 1 << 20, true, 0, 0},
	} {
		if yes, left, e := dice.Chance(c.draw, c.num, c.den); yes != c.yes || left != c.left || e != c.e {
			t.Error(c, yes, left, int(e))
		}
	}
}

func TestPick(t *testing.T) { // P8.2
	ones := make([]int, 64)
	for i := range ones {
		ones[i] = 1
	}
	for i, c := range []struct {
		draw    int
		l       []int
		k, left int
		e       api.Errno
	}{
		{5, []int{2, 0, 3, 1}, 3, 0, 0}, {0, []int{2, 0, 3, 1}, 0, 0, 0}, {1, []int{2, 0, 3, 1}, 0, 0, 0}, {2, []int{2, 0, 3, 1}, 2, 0, 0},
		{4, []int{2, 0, 3, 1}, 2, 0, 0}, {62, []int{2, 0, 3, 1}, 2, 10, 0}, {0, []int{0, 0, 1}, 2, 0, 0},
		{-1, make([]int, 65), 0, 0, api.ErrRange}, {0, make([]int, 65), 0, 0, api.ErrBig}, {0, []int{0, -1}, 0, 0, api.ErrArg}, {0, []int{0, 1<<20 + 1}, 0, 0, api.ErrArg},
		{0, nil, 0, 0, api.ErrNone}, {0, make([]int, 64), 0, 0, api.ErrNone}, {0, []int{math.MaxInt, math.MaxInt}, 0, 0, api.ErrArg},
		{1<<20 + 7, []int{0, 1 << 20}, 1, 1, 0}, {1<<20 - 1, ones, 63, 1<<14 - 1, 0},
	} {
		if k, left, e := dice.Pick(c.draw, c.l); k != c.k || left != c.left || e != c.e {
			t.Error(i, k, left, int(e))
		}
	}
}

func TestOrder(t *testing.T) { // P8.3
	for _, c := range []struct {
		draw, n int
		l       []int
		e       api.Errno
	}{
		{1, 3, []int{1, 0, 2}, 0}, {0, 3, []int{0, 1, 2}, 0}, {5, 3, []int{2, 1, 0}, 0}, {6, 3, []int{0, 1, 2}, 0}, {3, 3, []int{0, 2, 1}, 0}, {7, 0, nil, 0}, {7, 1, []int{0}, 0},
		{-1, -1, nil, api.ErrRange}, {1, -1, nil, api.ErrArg}, {1, 13, nil, api.ErrArg}, {479001599, 12, []int{11, 10, 9, 8, 7, 6, 5, 4, 3, 2, 1, 0}, 0},
	} {
		l, e := dice.Order(c.draw, c.n)
		if e != c.e || len(l) != len(c.l) {
			t.Fatal(c, l, int(e))
		}
		for i := range l {
			if l[i] != c.l[i] {
				t.Error(c, l)
			}
		}
	}
}

func TestAllOrders(t *testing.T) { // P8.4
	fact := 1
	for n := 1; n <= 6; n++ {
		fact *= n
		seen := map[[6]int]bool{}
		for draw := range fact {
			l, e := dice.Order(draw, n)
			var x [6]int
			var there [6]bool
			for i, k := range l {
				x[i] = k
				there[k] = true
			}
			for i := range n {
				if !there[i] {
					t.Fatal(draw, l)
				}
			}
			if e != api.OK || len(l) != n || seen[x] {
				t.Fatal(draw, n, l)
			}
			seen[x] = true
		}
	}
	for draw := range 200 {
		k, left, _ := dice.Pick(draw, []int{1, 1, 1, 1, 1, 1, 1})
		if b, rest, _ := dice.Below(draw, 7); b != k || rest != left {
			t.Error(draw)
		}
	}
}

func TestFair(t *testing.T) { // P8.5
	l := []int{3, 0, 7, 1, 0, 5}
	var got [6]int
	for draw := range 16 {
		k, left, e := dice.Pick(draw, l)
		if e != api.OK || left != 0 {
			t.Fatal(draw)
		}
		got[k]++
	}
	for i := range l {
		if got[i] != l[i] {
			t.Error(got)
		}
	}
}
