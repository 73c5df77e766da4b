package script_test

import (
	"math/rand"
	"strconv"
	"strings"
	"testing"

	"cellaret/aes"
	"cellaret/api"
	"cellaret/ctr"
	"cellaret/flat"
	"cellaret/script"
	"cellaret/watch"
	"cellaret/world"
)

// The tests of the whole go by scripts, or act by act where the devices are looked at.

var zero = strings.Repeat("\x00", 48)

func made(t *testing.T, g api.Geom, key string) *watch.Watch {
	t.Helper()
	w, e := world.New(g, key)
	if e != api.OK {
		t.Fatal(int(e))
	}
	x, e := watch.Over(w)
	if e != api.OK {
		t.Fatal(int(e))
	}
	return x
}

func geometry(rnd *rand.Rand) api.Geom {
	return api.Geom{Blocks: 4 * (1 + rnd.Intn(16)), Slots: 1 + rnd.Intn(8), MaxIV: 1 << 30}
}

// gentle is an act that neither crashes nor harms.
func gentle(rnd *rand.Rand, g api.Geom) api.Act {
	kinds := []int{api.XRead, api.XRead, api.XRead, api.XWrite, api.XWrite, api.XWrite, api.XWrite, api.XFUA, api.XFlush, api.XDiscard, api.XSetMode, api.XAttach, api.XDetach, api.XInvalidate, api.XPromote, api.XPromote, api.XDemote, api.XTick, api.XTick, api.XTick, api.XTick, api.XTick}
	a := api.Act{Kind: kinds[rnd.Intn(len(kinds))], A: rnd.Intn(g.Blocks+2) - 1}
	switch a.Kind {
	case api.XRead, api.XDiscard:
		a.B = rnd.Intn(10)
	case api.XWrite, api.XFUA:
		a.S = strings.Repeat(string([]byte{byte(rnd.Intn(256))}), rnd.Intn(1+rnd.Intn(420)))
	case api.XSetMode:
		a.A = rnd.Intn(4)
	case api.XAttach, api.XDetach, api.XFlush:
		a.A = 0
	case api.XInvalidate:
		a.A, a.B = a.A/4, rnd.Intn(3)
	case api.XPromote, api.XDemote:
		a.A /= 4
	case api.XTick:
		a.A = rnd.Int() - 5
	}
	return a
}

// should tells what the flat model answers.
func should(f *flat.Flat, g api.Geom, a api.Act) api.Told {
	n, data := a.B, world.Data(a.S)
	if a.Kind == api.XWrite || a.Kind == api.XFUA {
		n = len(data) / 48
	}
	if n < 1 || n > 8 {
		return api.Told{E: api.ErrArg}
	}
	switch a.Kind {
	case api.XRead:
		s, e := f.Read(a.A, n)
		return api.Told{E: e, S: s, N: len(s)}
	case api.XDiscard:
		return api.Told{E: f.Discard(a.A, n)}
	}
	return api.Told{E: f.Write(a.A, data)}
}

func TestW1Flat(t *testing.T) {
	busy, told := 0, 0
	for seed := range 40 {
		rnd := rand.New(rand.NewSource(int64(seed)))
		p := script.Play{G: geometry(rnd), Key: "k"}
		for range 250 {
			p.L = append(p.L, gentle(rnd, p.G))
		}
		s, e := script.Print(p)
		if e != api.OK {
			t.Fatal(int(e))
		}
		out, e := script.Run(s)
		if e != api.OK {
			t.Fatal(int(e))
		}
		f, _ := flat.New(p.G.Blocks)
		for i, line := range strings.Split(out, "\n")[:len(p.L)] {
			a, w := p.L[i], strings.Split(line, " ")
			n, _ := strconv.Atoi(w[0])
			e := api.Errno(n)
			switch a.Kind {
			case api.XRead, api.XWrite, api.XFUA, api.XDiscard:
				want := should(f, p.G, a)
				data := "-"
				if want.S != "" {
					line, _ := script.Line(api.Act{Kind: api.XOpen, S: want.S[:48]})
					data = line[5:]
				}
				if e != want.E || w[1] != strconv.Itoa(want.N) || !strings.HasPrefix(w[2], data) {
					t.Fatalf("seed %d, act %d, %+v: %s, not %d", seed, i, a, line, int(want.E))
				}
				if e == api.OK {
					told++
				}
			case api.XFlush:
				if e != api.OK {
					t.Fatal(seed, i, line)
				}
			default:
				groups := p.G.Blocks / 4
				want := api.OK
				switch {
				case a.Kind == api.XSetMode && a.A > 2:
					want = api.ErrArg
				case a.Kind == api.XInvalidate && (a.B < 1 || a.A < 0 || a.A+a.B > groups), (a.Kind == api.XPromote || a.Kind == api.XDemote) && (a.A < 0 || a.A >= groups):
					want = api.ErrRange
				}
				if e != want && (want != api.OK || e != api.ErrBusy) {
					t.Fatalf("seed %d, act %d, %+v: %s", seed, i, a, line)
				}
				if e == api.ErrBusy {
					busy++
				}
			}
			if w[3] != "0" {
				t.Fatal(seed, i, line)
			}
		}
	}
	if busy < 20 || told < 1000 {
		t.Error(busy, told)
	}
}

func TestW2Crashes(t *testing.T) {
	for seed := range 80 {
		rnd := rand.New(rand.NewSource(int64(seed)))
		g := geometry(rnd)
		x := made(t, g, "k")
		for range 6 {
			hit := api.Act{Kind: api.XArm, A: 1 + rnd.Intn(500)}
			if rnd.Intn(3) == 0 {
				hit.Kind = api.XFault
			}
			x.Do(hit)
			for range 200 {
				y, v := x.Do(gentle(rnd, g))
				if v != watch.Fine {
					t.Fatal(seed, int(y.E), v)
				}
				if y.E == api.ErrDown || y.E == api.ErrIO {
					break
				}
			}
			x.Do(api.Act{Kind: api.XCrash, Slow: api.Loss{Keep: keep(rnd.Intn(65)), Torn: rnd.Intn(288), Bytes: rnd.Intn(64)}, Fast: api.Loss{Keep: keep(rnd.Intn(65)), Torn: rnd.Intn(288), Bytes: rnd.Intn(64)}})
			for range rnd.Intn(3) { // in the midst of opening, too
				x.Do(api.Act{Kind: api.XArm, A: 1 + rnd.Intn(200)})
				x.Do(api.Act{Kind: api.XOpen, S: "k"})
				x.Do(api.Act{Kind: api.XCrash})
			}
			if y, v := x.Do(api.Act{Kind: api.XOpen, S: "k"}); y.E != api.OK || v != watch.Fine {
				t.Fatal(seed, int(y.E), v)
			}
			for b := range g.Blocks { // it reads as one of the states that may be: the judge looks
				if y, v := x.Do(api.Act{Kind: api.XRead, A: b, B: 1}); y.E != api.OK || v != watch.Fine {
					t.Fatal(seed, int(y.E), v)
				}
			}
			if n := x.Judge().Worlds(); n != 1 {
				t.Fatal(seed, n)
			}
		}
	}
}

func TestW3Tampering(t *testing.T) {
	stopped, read := 0, 0
	for seed := range 120 {
		rnd := rand.New(rand.NewSource(int64(seed)))
		g := geometry(rnd)
		x := made(t, g, "k")
		for i := range 150 {
			a := gentle(rnd, g)
			switch k := rnd.Intn(30); {
			case k == 0:
				a = api.Act{Kind: api.XKeep}
			case k == 1 && i > 30:
				a = api.Act{Kind: api.XReturn, A: rnd.Intn(2)}
			case k == 2 && i > 30:
				at := 161 + rnd.Intn(127)
				a = api.Act{Kind: api.XCross, A: rnd.Intn(2), B: at, C: at}
			case k == 3 && i > 30:
				a = api.Act{Kind: api.XLater, A: rnd.Intn(2), B: rnd.Intn(288), C: 1 + rnd.Intn(60), S: "x"}
			case k == 4:
				a = api.Act{Kind: api.XCrash, Slow: api.Loss{Keep: keep(64)}}
			case k < 7:
				a = api.Act{Kind: api.XClose}
			}
			y, v := x.Do(a)
			if !x.World().Vol().IsOpen() && v < watch.Wrong {
				y, v = x.Do(api.Act{Kind: api.XOpen, S: "k"})
			}
			if v != watch.Fine && (v != watch.Stopped || y.E != api.ErrTamper) {
				t.Fatalf("seed %d, act %d, %+v: %d, verdict %d", seed, i, a, int(y.E), v)
			}
			if v == watch.Stopped && x.World().Vol().IsOpen() { // and then nothing else till it is opened again
				stopped++
				for kind := api.XRead; kind < api.XClose; kind++ {
					if y := x.World().Do(api.Act{Kind: kind, B: 1}); y.E != api.ErrTamper {
						t.Fatal(seed, kind, int(y.E))
					}
				}
			}
			if a.Kind == api.XRead && y.E == api.OK {
				read++
			}
		}
	}
	if stopped < 20 || read < 500 {
		t.Error(stopped, read)
	}
}

func TestW4Once(t *testing.T) {
	for seed := range 8 {
		rnd := rand.New(rand.NewSource(int64(seed)))
		g := geometry(rnd)
		g.MaxIV = 150
		x := made(t, g, "k")
		seen := map[int]string{}
		exhausted := false
		for i := range 250 {
			a := gentle(rnd, g)
			if i%40 == 39 {
				a = api.Act{Kind: api.XCrash}
			} else if i%40 == 20 {
				a = api.Act{Kind: api.XArm, A: 1 + rnd.Intn(80)}
			}
			y, v := x.Do(a)
			if v != watch.Fine {
				t.Fatal(seed, i, v)
			}
			if y.E == api.ErrDown {
				x.Do(api.Act{Kind: api.XCrash})
			}
			if !x.World().Vol().IsOpen() {
				x.Do(api.Act{Kind: api.XOpen, S: "k"})
			}
			exhausted = exhausted || y.E == api.ErrExhausted
			if exhausted && a.Kind == api.XRead && y.E == api.ErrExhausted {
				t.Fatal("Read does not go on")
			}
			for d := range 2 {
				image := x.World().Rig().Dev(d).Image()
				for ; image != ""; image = image[64:] {
					n, kind, e := ctr.Kind(image[:64])
					if e != api.OK || kind != ctr.Sealed {
						continue
					}
					if was, there := seen[n]; there && was != image[:64] || n >= g.MaxIV {
						t.Fatal(seed, i, "number", n)
					}
					seen[n] = image[:64]
				}
			}
		}
		for y := (api.Told{}); y.E == api.OK; {
			y, _ = x.Do(api.Act{Kind: api.XWrite, S: "z"})
			exhausted = exhausted || y.E == api.ErrExhausted
		}
		if y, v := x.Do(api.Act{Kind: api.XRead, B: 1}); !exhausted || y.E != api.OK || v != watch.Fine {
			t.Error(seed, int(y.E), v)
		}
	}
}

func TestW5Learn(t *testing.T) {
	pad := func(s string) string { return s + strings.Repeat("\x00", 32-len(s)) }
	k1, _ := aes.New(pad("one"))
	k2, _ := aes.New(pad("two"))
	for seed := range 8 {
		rnd := rand.New(rand.NewSource(int64(seed)))
		g := geometry(rnd)
		x, y := made(t, g, "one"), made(t, g, "two")
		for i := range 120 {
			a := gentle(rnd, g)
			b := a
			if a.Kind == api.XWrite || a.Kind == api.XFUA { // other data, whose sealed blocks are the same
				s, _ := x.World().Vol().Status()
				a.S, b.S = world.Data(a.S), ""
				for j := range len(a.S) / 48 {
					c, _ := ctr.Crypt(k1, g.MaxIV-s.Left+j, a.S[48*j:48*j+48])
					d, _ := ctr.Crypt(k2, g.MaxIV-s.Left+j, c)
					b.S += d
				}
			}
			p, _ := x.Do(a)
			q, _ := y.Do(b)
			if p.E != q.E || p.N != q.N {
				t.Fatal(seed, i, int(p.E), int(q.E))
			}
			for d := range 2 {
				one, two := x.World().Rig().Dev(d).Image(), y.World().Rig().Dev(d).Image()
				if one[64:] != two[64:] || one[:32] != two[:32] {
					t.Fatal(seed, i, "the devices tell more")
				}
			}
		}
	}
}

func TestW6Ends(t *testing.T) {
	most := 0
	for seed := range 40 {
		rnd := rand.New(rand.NewSource(int64(seed)))
		g := geometry(rnd)
		x := made(t, g, "k")
		do := func(a api.Act) api.Told {
			before := x.World().Rig().Calls()
			y, _ := x.Do(a)
			most = max(most, x.World().Rig().Calls()-before)
			return y
		}
		for range 100 + rnd.Intn(60) {
			do(gentle(rnd, g))
		}
		for k := range 2 {
			do(api.Act{Kind: api.XSetMode})
			do(api.Act{Kind: api.XAttach})
			for group := range g.Blocks / 4 {
				do(api.Act{Kind: api.XPromote, A: group})
				do(api.Act{Kind: api.XWrite, A: 4*group + rnd.Intn(4), S: "x"})
			}
			s, _ := x.World().Vol().Status()
			for range s.Dirty + 2 {
				if y := do(api.Act{Kind: api.XTick, A: rnd.Int()}); y.E != api.OK {
					t.Fatal(int(y.E))
				}
			}
			last := api.Act{Kind: api.XDetach}
			if k == 1 {
				last = api.Act{Kind: api.XSetMode, A: 1 + rnd.Intn(2)}
			}
			if y := do(last); y.E != api.OK {
				t.Fatal(seed, int(y.E))
			}
		}
		do(api.Act{Kind: api.XClose})
		do(api.Act{Kind: api.XRebuild, S: "k"})
	}
	if most > 120*(api.Height+api.Group) {
		t.Error("steps", most)
	}
}

func TestW7Rebuild(t *testing.T) {
	rebuilt, lost := 0, 0
	for seed := range 60 {
		rnd := rand.New(rand.NewSource(int64(seed)))
		g := geometry(rnd)
		x := made(t, g, "k")
		for range 60 {
			x.Do(gentle(rnd, g))
		}
		x.Do(api.Act{Kind: api.XSetMode})
		x.Do(api.Act{Kind: api.XAttach})
		x.Do(api.Act{Kind: api.XPromote, A: rnd.Intn(g.Blocks / 4)})
		for b := range g.Blocks {
			x.Do(api.Act{Kind: api.XWrite, A: b, S: "w"})
		}
		if seed%2 == 0 {
			s, _ := x.World().Vol().Status()
			for range s.Dirty + 2 {
				x.Do(api.Act{Kind: api.XTick})
			}
		}
		s, _ := x.World().Vol().Status()
		x.Do(api.Act{Kind: api.XClose})
		for i := range 288 {
			x.Do(api.Act{Kind: api.XTamper, A: api.Fast, B: i, S: strings.Repeat(string([]byte{byte(rnd.Intn(256))}), 64)})
		}
		before := x.World().Rig().Dev(0).Image() + x.World().Rig().Dev(1).Image()
		y, v := x.Do(api.Act{Kind: api.XRebuild, S: "k"})
		if s.Dirty > 0 {
			if y.E != api.ErrDirtyLost || v != watch.Fine || x.World().Rig().Dev(0).Image()+x.World().Rig().Dev(1).Image() != before {
				t.Fatal(seed, int(y.E))
			}
			lost++
			continue
		}
		rebuilt++
		if y.E != api.OK || v != watch.Fine {
			t.Fatal(seed, int(y.E))
		}
		for b := range g.Blocks {
			if y, v := x.Do(api.Act{Kind: api.XRead, A: b, B: 1}); y.E != api.OK || v != watch.Fine {
				t.Fatal(seed, b, int(y.E), v)
			}
		}
		if y, v := x.Do(api.Act{Kind: api.XFUA, S: "x"}); y.E != api.OK || v != watch.Fine {
			t.Fatal(seed, int(y.E))
		}
	}
	if rebuilt < 10 || lost < 10 {
		t.Error(rebuilt, lost)
	}
}
