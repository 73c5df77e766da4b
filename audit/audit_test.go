package audit_test

import (
	"math/rand"
	"slices"
	"strings"
	"testing"

	"cellaret/aes"
	"cellaret/api"
	"cellaret/audit"
	"cellaret/auth"
	"cellaret/chain"
	"cellaret/ctr"
	"cellaret/geom"
	"cellaret/node"
	"cellaret/oracle"
	"cellaret/record"
	"cellaret/reg"
	"cellaret/rig"
	"cellaret/slots"
	"cellaret/store"
	"cellaret/world"
)

var (
	g   = api.Geom{Blocks: 16, Slots: 2, MaxIV: 1000}
	key = strings.Repeat("k", 32)
)

func ok(t *testing.T, l ...api.Errno) {
	t.Helper()
	for i, e := range l {
		if e != api.OK {
			t.Fatal(i, int(e))
		}
	}
}

// shot is what lies there.
type shot struct {
	slow, fast, register string
}

func taken(t *testing.T, r *rig.Rig) shot {
	t.Helper()
	s := shot{slow: r.Dev(0).Image(), fast: r.Dev(1).Image()}
	c := r.Copy()
	c.Crash(api.Loss{}, api.Loss{})
	var e api.Errno
	s.register, e = c.Reg()
	ok(t, e)
	return s
}

func (s shot) check(t *testing.T, want api.Report, e api.Errno) {
	t.Helper()
	if r, got := audit.Check(nil, s.slow, s.fast, s.register); r != want || got != e {
		t.Errorf("%+v %d, not %+v %d", r, int(got), want, int(e))
	}
}

func (s shot) both(t *testing.T, e api.Errno) {
	t.Helper()
	s.check(t, api.Report{}, e)
	if l, got := audit.Leaves(nil, s.slow, s.fast, s.register); l[0] != nil || l[1] != nil || got != e {
		t.Error(int(got))
	}
}

func made(t *testing.T) (*rig.Rig, *auth.Vault) {
	t.Helper()
	r := rig.New()
	s, e := store.Format(r, nil, g, key)
	ok(t, e)
	v, e := auth.New(s, key)
	ok(t, e)
	return r, v
}

func data(s string) string { return world.Data(s) }

func TestNothing(t *testing.T) { // P34.1, P34.2
	w, e := world.New(g, "k")
	ok(t, e)
	s := taken(t, w.Rig())
	s.check(t, api.Report{}, api.OK)
	if l, e := audit.Leaves(nil, s.slow, s.fast, s.register); len(l[0]) != 0 || len(l[1]) != 0 || e != api.OK {
		t.Error(int(e))
	}
	for _, x := range []shot{
		{"", s.fast, ""}, {s.slow, s.fast[1:], ""}, {s.slow + "x", s.fast, s.register}, {s.slow, s.fast[64:], s.register},
		{s.slow, s.fast, ""}, {s.slow, s.fast, s.register + "x"}, {s.slow, s.fast, strings.Repeat("x", 96)},
	} {
		x.both(t, api.ErrForm)
	}
	shot{s.slow, s.fast, strings.Repeat("\x00", 96)}.both(t, api.ErrFormat)
	shot{strings.Repeat("x", 64) + s.slow[64:], s.fast, strings.Repeat("\x00", 96)}.both(t, api.ErrFormat)
	shot{strings.Repeat("x", 64) + s.slow[64:], s.fast, s.register}.both(t, api.ErrTamper)
}

func TestLeaves(t *testing.T) { // P34.1, P34.2
	r, v := made(t)
	ok(t, v.Write(0, 5, data("a")), v.Write(0, 2, data("b")), v.Write(1, 40, data("c")), v.Copy(0, 2, 1, 41), v.Plain(1, 42, data("d")), v.Store().Commit())
	s := taken(t, r)
	s.check(t, api.Report{Leaves: [2]int{2, 3}, Numbers: 3}, api.OK)
	l, e := audit.Leaves(nil, s.slow, s.fast, s.register)
	ok(t, e)
	for d, want := range [2][]int{{2, 5}, {40, 41, 42}} {
		var at []int
		for _, p := range l[d] {
			at = append(at, p.At)
			if b, _, _ := v.Store().Get(d, p.At); b != p.B {
				t.Error(d, p.At)
			}
		}
		if !slices.Equal(at, want) {
			t.Error(d, at)
		}
	}
	// What the devices lost of it is to be written.
	r.Crash(api.Loss{Torn: -1}, api.Loss{Torn: -1})
	s = taken(t, r)
	s.check(t, api.Report{Leaves: [2]int{2, 3}, Behind: [2]int{2 + 8, 3 + 7}, Numbers: 3}, api.OK)
	if m, e := audit.Leaves(nil, s.slow, s.fast, s.register); e != api.OK || !slices.Equal(m[0], l[0]) || !slices.Equal(m[1], l[1]) {
		t.Error(int(e))
	}
	// Of one that is not attached the fast device is not looked at, but for its length.
	st, _, e := store.Open(r, nil)
	ok(t, e, st.Detach())
	s = taken(t, r)
	s.fast = strings.Repeat("?", len(s.fast))
	s.check(t, api.Report{Leaves: [2]int{2, 0}, Numbers: 2}, api.OK)
	s.fast = ""
	s.both(t, api.ErrForm)
}

// registered tells the register changed.
func registered(t *testing.T, s shot, change func(x *api.Reg)) shot {
	t.Helper()
	x, e := reg.Get(s.register)
	ok(t, e)
	change(&x)
	s.register, e = reg.Put(x)
	ok(t, e)
	return s
}

func TestJournal(t *testing.T) { // P34.1
	r, v := made(t)
	ok(t, v.Write(0, 5, data("a")), v.Write(1, 40, data("c")), v.Store().Commit(), v.Write(0, 5, data("b")), v.Store().Commit())
	s := taken(t, r)
	s.check(t, api.Report{Leaves: [2]int{1, 1}, Numbers: 2}, api.OK)
	for i, change := range []func(x *api.Reg){
		func(x *api.Reg) { x.Used[0] = 0 }, func(x *api.Reg) { x.Used[1] = 0 }, func(x *api.Reg) { x.Used[0]-- }, func(x *api.Reg) { x.Used[0]++ }, func(x *api.Reg) { x.Used[0] = 10 }, func(x *api.Reg) { x.Area[0] = 1 }, func(x *api.Reg) { x.Area[1] = 1 },
		func(x *api.Reg) { x.Anchors[0][3]++ }, func(x *api.Reg) { x.Anchors[1][3]++ }, func(x *api.Reg) { x.Anchors[0], x.Anchors[1] = x.Anchors[1], x.Anchors[0] },
	} {
		x := registered(t, s, change)
		if _, e := audit.Check(nil, x.slow, x.fast, x.register); e != api.ErrTamper {
			t.Error(i, int(e))
		}
		x.both(t, api.ErrTamper)
	}
	x := registered(t, s, func(x *api.Reg) { x.Epoch, x.IV = 77, 500 })
	x.check(t, api.Report{Leaves: [2]int{1, 1}, Numbers: 2}, api.OK)
}

func TestNoBlock(t *testing.T) { // P34.1
	r, v := made(t)
	ok(t, v.Store().Put(0, 5, strings.Repeat("x", 64)), v.Store().Commit())
	taken(t, r).both(t, api.ErrTamper)
}

func TestTable(t *testing.T) { // P34.2
	both := func(v *auth.Vault, r *rig.Rig, e api.Errno) {
		t.Helper()
		ok(t, v.Store().Commit())
		s := taken(t, r)
		s.check(t, api.Report{}, e)
		if _, e := audit.Leaves(nil, s.slow, s.fast, s.register); e != api.OK {
			t.Error(int(e))
		}
	}
	r, v := made(t)
	ok(t, v.Write(1, geom.Table, data("")))
	both(v, r, api.ErrTamper) // Sealed
	ok(t, v.Plain(1, geom.Table, data("x")))
	both(v, r, api.ErrTamper)
	y, _ := slots.New(3)
	y.Take(1)
	y.Take(2)
	y.Take(3)
	ok(t, v.Plain(1, geom.Table, y.Bytes()))
	both(v, r, api.ErrTamper) // more slots than there are
	y, _ = slots.New(2)
	y.Take(3)
	y.Mark(0, 1, true, true)
	ok(t, v.Plain(1, geom.Table, y.Bytes()))
	both(v, r, api.ErrTamper) // dirty, but the register says nothing
	ok(t, v.Store().Say(1, 0), v.Store().Commit())
	taken(t, r).check(t, api.Report{Leaves: [2]int{0, 1}, Cached: 1, Dirty: 1}, api.OK)
	ok(t, v.Clear(1, geom.Table))
	both(v, r, api.ErrTamper)
}

func TestState(t *testing.T) { // P34.2
	table := func(v *auth.Vault, valid, dirty bool) {
		t.Helper()
		y, _ := slots.New(2)
		y.Take(0)
		i, e := y.Take(3)
		ok(t, e, y.Mark(i, 2, valid, dirty), v.Plain(1, geom.Table, y.Bytes()), v.Store().Say(y.Dirty(), 0), v.Store().Commit())
	}
	r, v := made(t)
	ok(t, v.Write(0, 14, data("a")))
	table(v, true, false)
	taken(t, r).check(t, api.Report{}, api.ErrState) // the slot has none
	ok(t, v.Write(1, 6, data("a")))
	table(v, true, false)
	taken(t, r).check(t, api.Report{}, api.ErrState) // another block
	table(v, false, false)
	taken(t, r).check(t, api.Report{Leaves: [2]int{1, 2}, Cached: 2, Numbers: 2}, api.OK)
	table(v, true, true)
	taken(t, r).check(t, api.Report{Leaves: [2]int{1, 2}, Cached: 2, Dirty: 1, Numbers: 2}, api.OK)
	ok(t, v.Copy(0, 14, 1, 6))
	table(v, true, false)
	taken(t, r).check(t, api.Report{Leaves: [2]int{1, 2}, Cached: 2, Numbers: 1}, api.OK)
	ok(t, v.Clear(0, 14))
	table(v, true, false)
	taken(t, r).check(t, api.Report{}, api.ErrState) // the slow device has none
	ok(t, v.Clear(1, 6))
	table(v, true, false)
	taken(t, r).check(t, api.Report{Leaves: [2]int{0, 1}, Cached: 2}, api.OK)
	// Numbers.
	k, _ := aes.New(key)
	seal := func(n int, s string) string {
		b, e := ctr.Seal(k, n, data(s))
		ok(t, e)
		return b
	}
	for i, c := range []struct {
		a, b string
		e    api.Errno
	}{{seal(16, "a"), seal(3, "b"), api.ErrState}, {seal(15, "a"), seal(15, "a"), api.OK}, {seal(15, "a"), seal(15, "b"), api.ErrState}, {seal(2, "a"), seal(16, "b"), api.ErrState}} {
		for _, d := range []int{0, 1} {
			r, v := made(t)
			ok(t, v.Store().Raise(16), v.Set(0, 1, c.a), v.Set(d, 9, c.b), v.Store().Commit())
			s := taken(t, r)
			if _, e := audit.Check(nil, s.slow, s.fast, s.register); e != c.e {
				t.Error(i, d, int(e))
			}
		}
	}
	r, v = made(t)
	plain, _ := ctr.Lay(900, data("p"))
	ok(t, v.Set(0, 1, plain), v.Store().Commit())
	taken(t, r).check(t, api.Report{Leaves: [2]int{1, 0}}, api.OK) // no number of a sealed one
}

// act is one of whoever uses the volume, or a crash of it.
func act(rnd *rand.Rand) api.Act {
	kinds := []int{2, 2, 2, 2, 3, 4, 5, 5, 6, 7, 8, 9, 10, 10, 11, 12, 12, 12, 12}
	a := api.Act{Kind: kinds[rnd.Intn(len(kinds))], A: rnd.Intn(16), B: 1 + rnd.Intn(4), S: strings.Repeat("x", rnd.Intn(300))}
	switch a.Kind {
	case api.XSetMode:
		a.A %= 3
	case api.XInvalidate, api.XPromote, api.XDemote:
		a.A /= 4
	}
	return a
}

func loss(rnd *rand.Rand) api.Loss {
	x := api.Loss{Torn: rnd.Intn(300) - 5, Bytes: rnd.Intn(70) - 3}
	for range rnd.Intn(66) {
		x.Keep = append(x.Keep, rnd.Intn(2) == 0)
	}
	return x
}

func TestSound(t *testing.T) { // P34.3, P34.4
	for seed := range 60 {
		rnd := rand.New(rand.NewSource(int64(seed)))
		w, e := world.New(g, key)
		ok(t, e)
		for range 4 {
			w.Do(api.Act{Kind: api.XArm, A: 1 + rnd.Intn(400)})
			for i := 0; !w.Rig().Down(); i++ {
				if w.Do(act(rnd)); i%7 == 0 {
					s := taken(t, w.Rig())
					if _, e := audit.Check(w.Oracle(), s.slow, s.fast, s.register); e != api.OK {
						t.Fatal(seed, i, int(e))
					}
				}
			}
			crash := api.Act{Kind: api.XCrash, Slow: loss(rnd), Fast: loss(rnd)}
			w.Do(crash)
			if rnd.Intn(2) == 0 { // in the midst of opening, too
				w.Do(api.Act{Kind: api.XArm, A: 1 + rnd.Intn(150)})
				w.Do(api.Act{Kind: api.XOpen, S: key})
				w.Do(crash)
			}
			s := taken(t, w.Rig())
			r, e := audit.Check(w.Oracle(), s.slow, s.fast, s.register)
			ok(t, e)
			l, e := audit.Leaves(w.Oracle(), s.slow, s.fast, s.register)
			ok(t, e)
			opened(t, w.Rig().Copy(), l, r)
			if x := w.Do(api.Act{Kind: api.XOpen, S: key}); x.E != api.OK {
				t.Fatal(seed, int(x.E))
			}
			st, _ := w.Vol().Status()
			if st.Cached != r.Cached || st.Dirty != r.Dirty {
				t.Fatal(seed, st, r)
			}
			// What was opened has nothing to be written.
			s = taken(t, w.Rig())
			after, e := audit.Check(nil, s.slow, s.fast, s.register)
			if after.Behind != [2]int{} || after.Leaves != r.Leaves || after.Numbers != r.Numbers || e != api.OK {
				t.Fatal(seed, after, r)
			}
		}
	}
}

// opened holds leaves against what a store tells.
func opened(t *testing.T, r *rig.Rig, l [2][]api.Put, report api.Report) {
	t.Helper()
	s, _, e := store.Open(r, nil)
	ok(t, e)
	for d := range 2 {
		var told []api.Put
		for leaf := range 64 {
			b, there, e := s.Get(d, leaf)
			if d == 1 && !s.Reg().Attached {
				continue
			}
			ok(t, e)
			if there {
				told = append(told, api.Put{At: leaf, B: b})
			}
		}
		if !slices.Equal(told, l[d]) || len(told) != report.Leaves[d] {
			t.Fatal("device", d)
		}
	}
}

func TestChanged(t *testing.T) { // P34.5
	r, v := made(t)
	ok(t, v.Write(0, 5, data("a")), v.Write(1, 1, data("b")), v.Store().Commit(), v.Write(0, 9, data("c")), v.Write(1, 60, data("d")), v.Store().Commit())
	for round := range 3 { // as it was committed; as a crash left it; as it is opened again, when no journal has it any more
		switch round {
		case 1:
			r.Crash(api.Loss{}, api.Loss{})
		case 2:
			_, _, e := store.Open(r, nil)
			ok(t, e)
		}
		s := taken(t, r)
		l, e := audit.Leaves(nil, s.slow, s.fast, s.register)
		ok(t, e)
		o, caught := oracle.New(), 0
		for d := range 2 {
			for at := range 288 {
				for _, k := range []int{0, 7, 40, 63} {
					images := [2]string{s.slow, s.fast}
					b := []byte(images[d])
					b[64*at+k] ^= 4
					images[d] = string(b)
					m, e := audit.Leaves(o, images[0], images[1], s.register)
					if e == api.OK && slices.Equal(m[0], l[0]) && slices.Equal(m[1], l[1]) {
						continue
					}
					if e != api.ErrTamper || m[0] != nil || m[1] != nil {
						t.Fatal(d, at, int(e))
					}
					caught++
				}
			}
		}
		if caught < 250 || o.Len() == 0 {
			t.Error(caught)
		}
	}
}

// laid tells an image with a block elsewhere.
func laid(image string, at int, b string) string { return image[:64*at] + b + image[64*at+64:] }

func TestTree(t *testing.T) { // P34.1, P34.5: a leaf that is another one, and the nodes above it that say so, up to the root
	r, v := made(t)
	ok(t, v.Write(0, 5, data("a")), v.Write(1, 40, data("b")), v.Store().Commit())
	_, _, e := store.Open(r, nil)
	ok(t, e)
	k, _ := aes.New(key)
	other, _ := ctr.Seal(k, 1, data("x"))
	s := taken(t, r)
	for d, leaf := range []int{5, 40} {
		images := [2]string{s.slow, s.fast}
		at, _ := geom.LeafAt(leaf)
		images[d] = laid(images[d], at, other)
		sum, _ := node.Leaf(nil, other)
		path, _ := node.Path(leaf)
		for _, n := range append(path, -1) {
			shot{images[0], images[1], s.register}.both(t, api.ErrTamper)
			if n < 0 {
				break
			}
			at, _ := geom.NodeAt(n)
			side, _ := node.Side(leaf, n)
			b, _ := node.With(images[d][64*at:64*at+64], side, sum)
			images[d] = laid(images[d], at, b)
			sum, _ = node.Node(nil, b)
		}
	}
}

func TestRecords(t *testing.T) { // P34.1: records that are no journal's, whose anchor the register says
	r, _ := made(t)
	s := taken(t, r)
	super := s.slow[:64]
	_, root, _ := node.Bare(nil, 6)
	b, _, _ := node.Bare(nil, 0)
	put := []api.Put{{At: 224, B: b}}
	for i, c := range []struct {
		l []api.Record
		e api.Errno
	}{
		{[]api.Record{{Seq: 3, Root: root}}, 0}, {[]api.Record{{Seq: 3, Root: root}, {Seq: 4, Root: root, Puts: put}}, 0}, {[]api.Record{{Seq: 3, Root: root, Puts: put}}, api.ErrTamper}, {[]api.Record{{Seq: 3, Root: root}, {Seq: 5, Root: root}}, api.ErrTamper},
		{[]api.Record{{Seq: 3, Root: root}, {Seq: 3, Root: root}}, api.ErrTamper}, {[]api.Record{{Seq: 3}}, api.ErrTamper}, {[]api.Record{{Seq: 3}, {Seq: 4, Root: root}}, 0}, {[]api.Record{{Seq: 3, Root: root}, {Seq: 4}}, api.ErrTamper},
	} {
		for d := range 2 {
			images := [2]string{s.slow, s.fast}
			anchor, e := chain.Start(nil, super, d, 1)
			ok(t, e)
			used := 0
			for _, x := range c.l {
				blocks, e := record.Lay(x)
				ok(t, e)
				anchor, e = chain.Next(nil, anchor, blocks)
				ok(t, e)
				for _, b := range blocks {
					at, _ := geom.AreaAt(1, used)
					images[d] = laid(images[d], at, b)
					used++
				}
			}
			x := registered(t, s, func(x *api.Reg) { x.Area[d], x.Used[d], x.Anchors[d] = 1, used, anchor })
			if _, e := audit.Check(nil, images[0], images[1], x.register); e != c.e {
				t.Error(i, d, int(e))
			}
		}
	}
}
