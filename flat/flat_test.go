package flat_test

import (
	"math"
	"math/rand"
	"strings"
	"testing"

	"cellaret/api"
	"cellaret/flat"
)

func data(l ...byte) string {
	s := ""
	for _, c := range l {
		s += strings.Repeat(string([]byte{c}), 48)
	}
	return s
}

func model(t *testing.T, n int) *flat.Flat {
	t.Helper()
	f, e := flat.New(n)
	if e != api.OK || f == nil {
		t.Fatal(int(e))
	}
	return f
}

func ok(t *testing.T, l ...api.Errno) {
	t.Helper()
	for i, e := range l {
		if e != api.OK {
			t.Fatal(i, int(e))
		}
	}
}

func reads(t *testing.T, f *flat.Flat, at int, want string) {
	t.Helper()
	if s, e := f.Read(at, len(want)/48); s != want || e != api.OK {
		t.Errorf("%.3q %d", s, int(e))
	}
}

func counts(t *testing.T, f *flat.Flat, worlds, states int) {
	t.Helper()
	if f.Worlds() != worlds || f.States() != states {
		t.Error(f.Worlds(), f.States())
	}
}

func TestNew(t *testing.T) { // P26.1
	for _, n := range []int{0, -1, 65, math.MinInt, math.MaxInt} {
		if f, e := flat.New(n); f != nil || e != api.ErrArg {
			t.Error(n)
		}
	}
	for _, n := range []int{1, 5, 64} {
		f := model(t, n)
		counts(t, f, 1, 1)
		reads(t, f, 0, strings.Repeat("\x00", 48*n))
	}
}

func TestErrors(t *testing.T) { // P26.2
	var none *flat.Flat
	s, e := none.Read(-1, 0)
	if s != "" || e != api.ErrNil || none.Write(-1, "") != api.ErrNil || none.Discard(-1, 0) != api.ErrNil || none.Saw(0, data(0)) {
		t.Error("nil")
	}
	f := model(t, 4)
	for i, c := range []struct {
		at, n int
		e     api.Errno
	}{{-1, 0, api.ErrArg}, {0, -1, api.ErrArg}, {0, math.MinInt, api.ErrArg}, {-1, 1, api.ErrRange}, {0, 5, api.ErrRange}, {4, 1, api.ErrRange}, {3, 2, api.ErrRange}, {math.MaxInt, 1, api.ErrRange}, {1, math.MaxInt, api.ErrRange}, {math.MinInt, 4, api.ErrRange}} {
		s, e := f.Read(c.at, c.n)
		if s != "" || e != c.e || f.Discard(c.at, c.n) != c.e {
			t.Error(i, int(e))
		}
		if c.n >= 0 && c.n < 9 {
			if e := f.Write(c.at, strings.Repeat("\x00", 48*c.n)); e != c.e || f.Saw(c.at, strings.Repeat("\x00", 48*c.n)) {
				t.Error(i, int(e))
			}
		}
	}
	for _, n := range []int{0, 1, 47, 49, 97} {
		if f.Write(9, strings.Repeat("x", n)) != api.ErrArg || f.Saw(0, strings.Repeat("\x00", n)) {
			t.Error(n)
		}
	}
	counts(t, f, 1, 1)
}

func TestWriteDiscard(t *testing.T) { // P26.2, P26.6
	f := model(t, 9)
	ok(t, f.Write(0, data('a', 'b', 'c', 'd', 'e', 'f', 'g', 'h', 'i')), f.Write(2, data('x', 'y')))
	reads(t, f, 0, data('a', 'b', 'x', 'y', 'e'))
	ok(t, f.Discard(1, 2), f.Write(8, data('z')))
	reads(t, f, 0, data('a', 0, 0, 'y', 'e', 'f', 'g', 'h', 'z'))
	counts(t, f, 1, 5)
	ok(t, f.Write(8, data('z'))) // the same once more is a state, too
	counts(t, f, 1, 6)
}

func TestSafeCrash(t *testing.T) { // P26.4, P26.5, P26.7
	var none *flat.Flat
	none.Safe()
	none.Crash()
	f := model(t, 2)
	ok(t, f.Write(0, data('a')))
	c := f.Copy()
	f.Crash()
	counts(t, f, 2, 2)
	c.Safe()
	counts(t, c, 1, 1)
	c.Crash()
	counts(t, c, 1, 1)
	reads(t, c, 0, data('a'))
	if s, e := f.Read(0, 1); s != "" || e != api.ErrBusy {
		t.Error(int(e))
	}
	reads(t, f, 1, data(0))
	// More changes upon what may be; the same states are one.
	ok(t, f.Write(1, data('b')), f.Write(0, data('c')))
	counts(t, f, 2, 6)
	reads(t, f, 0, data('c', 'b'))
	f.Crash() // 0 0, 0 b, c b, a 0, a b
	counts(t, f, 5, 5)
	f.Crash()
	counts(t, f, 5, 5)
	for i, want := range []string{data(0, 0), data(0, 'b'), data('c', 'b'), data('a', 0), data('a', 'b')} {
		g := f.Copy()
		if !g.Saw(0, want) || g.Worlds() != 1 {
			t.Error(i)
		}
		reads(t, g, 0, want)
	}
	for i, no := range []string{data('c', 0), data(0, 'a'), data('x', 'b'), data('b')} {
		if f.Saw(0, no) || f.Worlds() != 5 {
			t.Error(i)
		}
	}
	ok(t, f.Write(0, data('q')))
	f.Safe()
	counts(t, f, 5, 5)
	f.Crash() // q 0, q b
	counts(t, f, 2, 2)
}

func TestSaw(t *testing.T) { // P26.3
	f := model(t, 3)
	ok(t, f.Write(0, data('a')), f.Write(1, data('b')), f.Write(0, data('c')))
	f.Crash() // 000 a00 ab0 cb0
	if !f.Saw(1, data('b', 0)) {
		t.Error("Saw")
	}
	counts(t, f, 2, 2)
	if f.Saw(0, data(0)) || f.Saw(0, data('d')) || f.Saw(3, data('a')) || f.Saw(-1, data('a')) || f.Saw(0, "") || f.Saw(0, "a") || f.Saw(0, data('a', 'b', 0, 0)) {
		t.Error("Saw")
	}
	counts(t, f, 2, 2)
	reads(t, f, 1, data('b', 0))
	ok(t, f.Write(2, data('e')))
	counts(t, f, 2, 4)
	if f.Saw(2, data(0)) { // what is now counts, not what was
		t.Error("Saw")
	}
	if !f.Saw(0, data('c')) || f.Worlds() != 1 || f.States() != 2 {
		t.Error("Saw")
	}
	reads(t, f, 0, data('c', 'b', 'e'))
}

func TestCopy(t *testing.T) { // P26.5
	var none *flat.Flat
	if none.Worlds() != 0 || none.States() != 0 || none.Copy() != nil {
		t.Error("nil")
	}
	f := model(t, 2)
	ok(t, f.Write(0, data('a')))
	c := f.Copy()
	ok(t, f.Write(0, data('b')), c.Write(0, data('c')), c.Write(1, data('d')))
	counts(t, f, 1, 3)
	counts(t, c, 1, 4)
	reads(t, f, 0, data('b', 0))
	reads(t, c, 0, data('c', 'd'))
	c.Crash()
	f.Crash()
	if c.Saw(0, data('b')) || f.Saw(0, data('c')) || !c.Copy().Saw(0, data('a')) || !f.Copy().Saw(0, data('a')) {
		t.Error("copies are one")
	}
}

// TestAll holds a model against one of plain texts.
func TestAll(t *testing.T) { // P26.6, P26.7
	for seed := range 30 {
		rnd := rand.New(rand.NewSource(int64(seed)))
		f := model(t, 3)
		chains := [][]string{{data(0, 0, 0)}}
		for range 60 {
			at := rnd.Intn(3)
			n := 1 + rnd.Intn(3-at)
			var b []byte
			for range n {
				b = append(b, byte(rnd.Intn(3)))
			}
			change := func(d string) {
				for i, c := range chains {
					now := c[len(c)-1]
					chains[i] = append(c[:len(c):len(c)], now[:48*at]+d+now[48*(at+n):])
				}
			}
			switch rnd.Intn(8) {
			case 0, 1, 2:
				change(data(b...))
				ok(t, f.Write(at, data(b...)))
			case 3:
				change(data(make([]byte, n)...))
				ok(t, f.Discard(at, n))
			case 4:
				for i, c := range chains {
					chains[i] = c[len(c)-1:]
				}
				f.Safe()
			case 5:
				var l [][]string
				seen := map[string]bool{}
				for _, c := range chains {
					for _, s := range c {
						if !seen[s] {
							seen[s] = true
							l = append(l, []string{s})
						}
					}
				}
				chains = l
				f.Crash()
			case 6:
				var l [][]string
				for _, c := range chains {
					if c[len(c)-1][48*at:48*(at+n)] == data(b...) {
						l = append(l, c)
					}
				}
				if f.Saw(at, data(b...)) != (len(l) > 0) {
					t.Fatal("Saw")
				}
				if len(l) > 0 {
					chains = l
				}
			case 7:
				want, e := chains[0][len(chains[0])-1][48*at:48*(at+n)], api.OK
				for _, c := range chains {
					if c[len(c)-1][48*at:48*(at+n)] != want {
						e = api.ErrBusy
					}
				}
				if e != api.OK {
					want = ""
				}
				if s, e2 := f.Read(at, n); s != want || e2 != e {
					t.Fatal("Read", int(e2))
				}
			}
			states := 0
			for _, c := range chains {
				states += len(c)
			}
			counts(t, f, len(chains), states)
		}
	}
}
