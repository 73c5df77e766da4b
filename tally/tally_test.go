package tally_test

import (
	"math"
	"math/rand"
	"testing"

	"cellaret/api"
	"cellaret/tally"
)

func read(n int) (api.Act, api.Told) {
	return api.Act{Kind: api.XRead, A: 1, B: 1}, api.Told{S: string(make([]byte, n)), N: 1}
}

// pairs are acts and answers by kinds and errors; a read that answers OK has 3 bytes.
func pairs(l ...[2]int) ([]api.Act, []api.Told) {
	var acts []api.Act
	var told []api.Told
	for _, p := range l {
		acts = append(acts, api.Act{Kind: p[0]})
		told = append(told, api.Told{E: api.Errno(p[1]), S: "abc", N: 9})
	}
	return acts, told
}

func TestOf(t *testing.T) { // P35.1
	if x := tally.Of(nil, nil); !tally.Same(x, api.Tally{}) {
		t.Error(x)
	}
	a, b := read(48)
	x := tally.Of([]api.Act{a, a}, []api.Told{b, b})
	if x.Beat != complex(1, 1) || x.Bytes != 96 || x.Acts[1] != 2 || x.Errors[0] != 2 {
		t.Error(x)
	}
	if x := tally.Of([]api.Act{a, a}, []api.Told{b}); x.Acts[1] != 1 || x.Bytes != 48 || x.Beat != 1 {
		t.Error(x)
	}
	if x := tally.Of([]api.Act{a}, []api.Told{b, b}); x.Acts[1] != 1 {
		t.Error(x)
	}
	x = tally.Of(pairs([2]int{1, 0}, [2]int{0, 0}, [2]int{1, 3}, [2]int{-1, 30}, [2]int{24, 31}, [2]int{23, -1}, [2]int{math.MinInt, math.MaxInt}, [2]int{1, 0}, [2]int{2, 0}, [2]int{math.MaxInt, math.MinInt}, [2]int{1, 0}))
	want := api.Tally{Bytes: 9, Beat: complex(0, -1)} // 1, and by 7 and by 10 quarters
	want.Acts[0], want.Acts[1], want.Acts[2], want.Acts[23] = 5, 4, 1, 1
	want.Errors[0], want.Errors[3], want.Errors[30], want.Errors[31] = 5, 1, 1, 4
	if !tally.Same(x, want) {
		t.Error(x)
	}
}

func TestManyRateWorst(t *testing.T) { // P35.1
	var x api.Tally
	if n, most := tally.Worst(x); tally.Many(x) != 0 || tally.Rate(x) != 0 || n != 0 || most != 0 {
		t.Error("nothing")
	}
	x.Acts[0], x.Acts[5], x.Acts[23] = 2, 3, 4
	x.Errors[0], x.Errors[12], x.Errors[3], x.Errors[31] = 2, 1, 1, 2
	if n, most := tally.Worst(x); tally.Many(x) != 9 || tally.Rate(x) != 33 || n != 31 || most != 2 {
		t.Error(tally.Many(x), tally.Rate(x), n, most)
	}
	x.Errors[3], x.Errors[12] = 2, 2
	if n, most := tally.Worst(x); n != 3 || most != 2 || tally.Rate(x) != 25 {
		t.Error(n, most)
	}
	x.Errors = [32]int{0: 7}
	if n, most := tally.Worst(x); n != 0 || most != 0 || tally.Rate(x) != 100 {
		t.Error(n, most)
	}
	x.Errors = [32]int{1: 7}
	if n, most := tally.Worst(x); n != 1 || most != 7 || tally.Rate(x) != 0 {
		t.Error(n, most)
	}
	for _, n := range []int{math.MinInt, math.MaxInt, -1} { // no call makes these, but none panics
		for i := range x.Errors {
			x.Errors[i], x.Acts[i%24] = n, n
		}
		tally.Many(x)
		tally.Rate(x)
		tally.Worst(x)
		tally.Add(x, x, n)
	}
	x.Errors = [32]int{0: 1, 1: -1}
	if tally.Rate(x) != 0 {
		t.Error("a sum of 0")
	}
}

func TestAddSame(t *testing.T) { // P35.2
	a := tally.Of(pairs([2]int{1, 0}, [2]int{2, 5}))
	b := tally.Of(pairs([2]int{1, 0}, [2]int{12, 5}, [2]int{99, 99}))
	c := tally.Add(a, b, 3)
	want := api.Tally{Bytes: 6, Beat: complex(1, -1)}
	want.Acts[0], want.Acts[1], want.Acts[2], want.Acts[12] = 1, 2, 1, 1
	want.Errors[0], want.Errors[5], want.Errors[31] = 2, 2, 1
	if !tally.Same(c, want) {
		t.Error(c)
	}
	if x := tally.Add(a, b, -1); !tally.Same(x, want) {
		t.Error(x)
	}
	if x := tally.Add(a, b, math.MinInt); x.Beat != 2 {
		t.Error(x.Beat)
	}
	z := complex(math.NaN(), math.Copysign(0, -1))
	if !tally.Same(api.Tally{Beat: z}, api.Tally{Beat: z}) || tally.Same(api.Tally{Beat: z}, api.Tally{Beat: complex(math.NaN(), 0)}) {
		t.Error("Beats")
	}
	for i, change := range []func(*api.Tally){func(x *api.Tally) { x.Acts[23]++ }, func(x *api.Tally) { x.Errors[31]++ }, func(x *api.Tally) { x.Bytes++ }, func(x *api.Tally) { x.Beat += 1 }, func(x *api.Tally) { x.Beat = complex(real(x.Beat), -imag(x.Beat)) }} {
		x := c
		change(&x)
		if tally.Same(x, c) || tally.Same(c, x) {
			t.Error(i)
		}
	}
}

func TestPartsAll(t *testing.T) { // P35.3, P35.4
	for seed := range 50 {
		rnd := rand.New(rand.NewSource(int64(seed)))
		var l [][2]int
		for range rnd.Intn(60) {
			p := [2]int{rnd.Intn(27) - 1, rnd.Intn(34) - 1}
			if rnd.Intn(2) == 0 {
				p = [2]int{1, 0}
			}
			l = append(l, p)
		}
		acts, told := pairs(l...)
		all := tally.Of(acts, told)
		k := rnd.Intn(len(l) + 1)
		parts := tally.Add(tally.Of(acts[:k], told[:k]), tally.Of(acts[k:], told[k:]), k)
		if !tally.Same(all, parts) {
			t.Fatal(seed, all, parts)
		}
		sum := 0
		for _, n := range all.Errors {
			sum += n
		}
		if tally.Many(all) != len(l) || sum != len(l) {
			t.Fatal(seed, sum)
		}
	}
}
