package world_test

import (
	"math"
	"math/rand"
	"strings"
	"testing"

	"cellaret/api"
	"cellaret/reg"
	"cellaret/world"
)

var g = api.Geom{Blocks: 16, Slots: 2, MaxIV: 1000}

func made(t *testing.T, g api.Geom, key string) *world.World {
	t.Helper()
	w, e := world.New(g, key)
	if e != api.OK || w == nil {
		t.Fatal(int(e))
	}
	return w
}

func block(s string) string { return s + strings.Repeat("\x00", 64-len(s)) }

func data(l ...string) string {
	d := ""
	for _, s := range l {
		d += s + strings.Repeat("\x00", 48-len(s))
	}
	return d
}

func does(t *testing.T, w *world.World, a api.Act, want api.Told) {
	t.Helper()
	if x := w.Do(a); x != want {
		t.Fatalf("%+v: %d %.4q %d", a, int(x.E), x.S, x.N)
	}
}

func fine(t *testing.T, w *world.World, l ...api.Act) {
	t.Helper()
	for _, a := range l {
		does(t, w, a, api.Told{})
	}
}

func reads(t *testing.T, w *world.World, at int, want string) {
	t.Helper()
	does(t, w, api.Act{Kind: api.XRead, A: at, B: len(want) / 48}, api.Told{S: want, N: len(want)})
}

func TestTexts(t *testing.T) { // P29.1
	long := strings.Repeat("x", 1000)
	for _, c := range []struct{ got, want string }{
		{world.Data(""), data("")}, {world.Data("a"), data("a")}, {world.Data(long[:48]), long[:48]}, {world.Data(long[:49]), long[:48] + data("x")}, {world.Data(long[:432]), long[:432]}, {world.Data(long[:433]), long[:432]}, {world.Data(long), long[:432]},
		{world.Data(long[:385]), long[:384] + data("x")},
		{world.Key(""), strings.Repeat("\x00", 32)}, {world.Key("ab"), "ab" + strings.Repeat("\x00", 30)}, {world.Key(long[:32]), long[:32]}, {world.Key(long), long[:32]},
		{world.Block(""), block("")}, {world.Block("ab"), block("ab")}, {world.Block(long[:64]), long[:64]}, {world.Block(long), long[:64]},
	} {
		if c.got != c.want {
			t.Errorf("%q", c.got)
		}
	}
}

func TestNew(t *testing.T) { // P29.1
	for _, g := range []api.Geom{{}, {Blocks: 5, Slots: 1, MaxIV: 1}, {Blocks: 4, Slots: 9, MaxIV: 1}} {
		if w, e := world.New(g, "k"); w != nil || e != api.ErrArg {
			t.Error(int(e))
		}
	}
	var none *world.World
	if none.Vol() != nil || none.Rig() != nil || none.Oracle() != nil || none.Do(api.Act{Kind: 99}) != (api.Told{E: api.ErrNil}) {
		t.Error("nil")
	}
	w := made(t, g, "a key that is much longer than 32 bytes are")
	if !w.Vol().IsOpen() || w.Oracle().Len() == 0 || w.Rig().Calls() == 0 {
		t.Error("New")
	}
	fine(t, w, api.Act{Kind: api.XClose}, api.Act{Kind: api.XOpen, S: "a key that is much longer than 3"})
	for _, kind := range []int{0, -1, 24, math.MinInt, math.MaxInt} {
		does(t, w, api.Act{Kind: kind}, api.Told{E: api.ErrArg})
	}
}

func TestVolume(t *testing.T) { // P29.2
	w := made(t, g, "k")
	fine(t, w, api.Act{Kind: api.XWrite, A: 2, S: "hello"}, api.Act{Kind: api.XWrite, A: 4, S: strings.Repeat("y", 50)})
	reads(t, w, 1, data("", "hello", "")+strings.Repeat("y", 48)+data("yy"))
	fine(t, w, api.Act{Kind: api.XDiscard, A: 2, B: 3})
	reads(t, w, 2, data("", "", "", "yy"))
	for i, c := range []struct {
		a api.Act
		e api.Errno
	}{
		{api.Act{Kind: api.XRead, A: 0, B: 0}, api.ErrArg}, {api.Act{Kind: api.XRead, A: 16, B: 1}, api.ErrRange}, {api.Act{Kind: api.XWrite, A: 0, S: strings.Repeat("x", 433)}, api.ErrArg}, {api.Act{Kind: api.XWrite, A: 16}, api.ErrRange},
		{api.Act{Kind: api.XFUA, A: -1}, api.ErrRange}, {api.Act{Kind: api.XDiscard, A: 0, B: 9}, api.ErrArg}, {api.Act{Kind: api.XSetMode, A: 3}, api.ErrArg}, {api.Act{Kind: api.XPromote, A: 4}, api.ErrRange}, {api.Act{Kind: api.XDemote, A: 4}, api.ErrRange},
		{api.Act{Kind: api.XInvalidate, A: 0, B: 0}, api.ErrRange}, {api.Act{Kind: api.XOpen}, api.ErrState}, {api.Act{Kind: api.XRebuild}, api.ErrState},
	} {
		if x := w.Do(c.a); x != (api.Told{E: c.e}) {
			t.Error(i, x)
		}
	}
	dirty := func(n int) api.Told { return api.Told{N: n} }
	does(t, w, api.Act{Kind: api.XPromote, A: 1}, dirty(0))
	fine(t, w, api.Act{Kind: api.XWrite, A: 4, S: "a"})
	does(t, w, api.Act{Kind: api.XPromote, A: 2}, dirty(1))
	fine(t, w, api.Act{Kind: api.XFUA, A: 8, S: "b"}, api.Act{Kind: api.XFlush})
	does(t, w, api.Act{Kind: api.XAttach}, dirty(2))
	does(t, w, api.Act{Kind: api.XSetMode, A: 0}, dirty(2))
	does(t, w, api.Act{Kind: api.XInvalidate, A: 0, B: 1}, dirty(2))
	does(t, w, api.Act{Kind: api.XDemote, A: 3}, dirty(2))
	does(t, w, api.Act{Kind: api.XDemote, A: 2}, api.Told{E: api.ErrBusy})
	does(t, w, api.Act{Kind: api.XDetach}, api.Told{E: api.ErrBusy})
	does(t, w, api.Act{Kind: api.XTick, A: 7}, dirty(1))
	does(t, w, api.Act{Kind: api.XTick, A: 7}, dirty(0))
	does(t, w, api.Act{Kind: api.XSetMode, A: 1}, dirty(0))
	if s, _ := w.Vol().Status(); s.Mode != 1 || s.Cached != 2 || s.Clock != 2 {
		t.Error(s)
	}
	does(t, w, api.Act{Kind: api.XInvalidate, A: 0, B: 4}, dirty(0))
	does(t, w, api.Act{Kind: api.XDetach}, dirty(0))
	if s, _ := w.Vol().Status(); s.Attached || s.Cached != 0 {
		t.Error(s)
	}
	fine(t, w, api.Act{Kind: api.XClose})
	does(t, w, api.Act{Kind: api.XClose}, api.Told{E: api.ErrState})
	does(t, w, api.Act{Kind: api.XRead, A: 0, B: 1}, api.Told{E: api.ErrState})
	does(t, w, api.Act{Kind: api.XTick}, api.Told{E: api.ErrState})
	does(t, w, api.Act{Kind: api.XOpen, S: "other"}, api.Told{E: api.ErrKey})
	fine(t, w, api.Act{Kind: api.XRebuild, S: "k"})
	reads(t, w, 4, data("a"))
	reads(t, w, 8, data("b"))
}

func TestMachine(t *testing.T) { // P29.2
	w := made(t, g, "k")
	fine(t, w, api.Act{Kind: api.XWrite, A: 0, S: "a"}, api.Act{Kind: api.XCrash})
	does(t, w, api.Act{Kind: api.XRead, A: 0, B: 1}, api.Told{E: api.ErrState})
	fine(t, w, api.Act{Kind: api.XOpen, S: "k"})
	reads(t, w, 0, data(""))
	for _, kind := range []int{api.XArm, api.XFault} {
		does(t, w, api.Act{Kind: kind, A: 0}, api.Told{E: api.ErrArg})
	}
	fine(t, w, api.Act{Kind: api.XFault, A: 2}, api.Act{Kind: api.XWrite, A: 0, S: "a"})
	does(t, w, api.Act{Kind: api.XFlush}, api.Told{E: api.ErrIO})
	does(t, w, api.Act{Kind: api.XFlush}, api.Told{E: api.ErrFailed})
	fine(t, w, api.Act{Kind: api.XClose}, api.Act{Kind: api.XOpen, S: "k"}, api.Act{Kind: api.XFUA, A: 1, S: "b"}, api.Act{Kind: api.XArm, A: 1})
	does(t, w, api.Act{Kind: api.XRead, A: 9, B: 1}, api.Told{E: api.ErrDown})
	if !w.Rig().Down() {
		t.Error("up")
	}
	fine(t, w, api.Act{Kind: api.XCrash}, api.Act{Kind: api.XOpen, S: "k"})
	reads(t, w, 0, data("", "b"))
	// What a crash keeps is what it is told to keep.
	w.Rig().Write(0, 3, block("x"))
	w.Rig().Write(1, 4, block("y"))
	fine(t, w, api.Act{Kind: api.XCrash, Slow: api.Loss{Keep: []bool{3: true}, Torn: -1}, Fast: api.Loss{Torn: 4, Bytes: 1}})
	if a, _ := w.Rig().Dev(0).Read(3); a != block("x") {
		t.Errorf("%q", a)
	}
	if b, _ := w.Rig().Dev(1).Read(4); b[0] != 'y' {
		t.Errorf("%q", b)
	}
}

func TestHarm(t *testing.T) { // P29.2
	w := made(t, g, "k")
	for i, c := range []struct {
		a api.Act
		e api.Errno
	}{
		{api.Act{Kind: api.XTamper, A: 2, B: 999}, api.ErrArg}, {api.Act{Kind: api.XTamper, A: 0, B: 288}, api.ErrRange}, {api.Act{Kind: api.XLater, A: 0, B: 0, C: 0}, api.ErrArg}, {api.Act{Kind: api.XLater, A: 0, B: 288, C: 1}, api.ErrRange},
		{api.Act{Kind: api.XReturn, A: 2}, api.ErrArg}, {api.Act{Kind: api.XReturn, A: -1}, api.ErrArg}, {api.Act{Kind: api.XReturn, A: 0}, api.ErrNone},
		{api.Act{Kind: api.XCross, A: 2, B: 999}, api.ErrArg}, {api.Act{Kind: api.XCross, A: -1}, api.ErrArg}, {api.Act{Kind: api.XCross, A: 0, B: 288}, api.ErrRange}, {api.Act{Kind: api.XCross, A: 0, B: 0, C: 288}, api.ErrRange}, {api.Act{Kind: api.XCross, A: 1, B: -1, C: 0}, api.ErrRange}, {api.Act{Kind: api.XCross, A: 1, B: 0, C: -1}, api.ErrRange},
	} {
		if x := w.Do(c.a); x != (api.Told{E: c.e}) {
			t.Error(i, x)
		}
	}
	fine(t, w, api.Act{Kind: api.XFUA, A: 0, S: "a"}, api.Act{Kind: api.XWrite, A: 1, S: "c"}, api.Act{Kind: api.XKeep})
	slow, fast := w.Rig().Dev(0).Image(), w.Rig().Dev(1).Image()
	fine(t, w, api.Act{Kind: api.XFUA, A: 0, S: "b"})
	fine(t, w, api.Act{Kind: api.XTamper, A: 1, B: 280, S: "xyz"}, api.Act{Kind: api.XLater, A: 0, B: 250, C: 1, S: "later"})
	if b, _ := w.Rig().Dev(1).Read(280); b != block("xyz") {
		t.Errorf("%q", b)
	}
	if b, _ := w.Rig().Dev(0).Read(250); b != block("") {
		t.Errorf("%q", b)
	}
	w.Rig().Reg()
	if b, _ := w.Rig().Dev(0).Read(250); b != block("later") {
		t.Errorf("%q", b)
	}
	fine(t, w, api.Act{Kind: api.XCross, A: 0, B: 9, C: 280}, api.Act{Kind: api.XCross, A: 1, B: 10, C: 250})
	if b, _ := w.Rig().Dev(0).Read(9); b != block("xyz") {
		t.Errorf("%q", b)
	}
	if b, _ := w.Rig().Dev(1).Read(10); b != block("later") {
		t.Errorf("%q", b)
	}
	fine(t, w, api.Act{Kind: api.XReturn, A: 1})
	if w.Rig().Dev(1).Image() != fast || w.Rig().Dev(0).Image() == slow {
		t.Error("Return of the fast device")
	}
	fine(t, w, api.Act{Kind: api.XReturn, A: 0})
	if w.Rig().Dev(0).Image() != slow {
		t.Error("Return of the slow device")
	}
	fine(t, w, api.Act{Kind: api.XCrash})
	does(t, w, api.Act{Kind: api.XOpen, S: "k"}, api.Told{E: api.ErrTamper}) // an old state is none that the register says
	does(t, w, api.Act{Kind: api.XRead, A: 0, B: 1}, api.Told{E: api.ErrState})
}

func act(rnd *rand.Rand) api.Act {
	kinds := []int{1, 1, 1, 2, 2, 2, 2, 3, 4, 5, 6, 7, 8, 9, 10, 11, 12, 12, 12, 12, 13, 14, 14, 14, 15, 16, 17, 18, 18, 19, 20, 21, 22, 23, 99}
	a := api.Act{Kind: kinds[rnd.Intn(len(kinds))], A: rnd.Intn(17), B: 1 + rnd.Intn(4), C: 1 + rnd.Intn(200), S: strings.Repeat(string([]byte{byte(rnd.Intn(256))}), rnd.Intn(100))}
	switch a.Kind {
	case api.XSetMode:
		a.A %= 3
	case api.XOpen, api.XRebuild:
		a.S = "k"
	case api.XArm, api.XFault:
		a.A = 1 + rnd.Intn(300)
	case api.XTamper, api.XLater, api.XCross, api.XReturn:
		a.A, a.B = rnd.Intn(2), rnd.Intn(288)
	case api.XCrash:
		for range rnd.Intn(64) {
			a.Slow.Keep = append(a.Slow.Keep, rnd.Intn(2) == 0)
			a.Fast.Keep = append(a.Fast.Keep, rnd.Intn(2) == 0)
		}
	}
	return a
}

func TestAgain(t *testing.T) { // P29.3, W8
	for seed := range 12 {
		rnd := rand.New(rand.NewSource(int64(seed)))
		w, x := made(t, g, "k"), made(t, g, "k")
		for i := range 120 {
			a := act(rnd)
			if p, q := w.Do(a), x.Do(a); p != q {
				t.Fatal(seed, i, p, q)
			}
			same := w.Rig().Calls() == x.Rig().Calls() && w.Rig().Down() == x.Rig().Down() && w.Oracle().Len() == x.Oracle().Len() && w.Vol().IsOpen() == x.Vol().IsOpen()
			for d := range 2 {
				same = same && w.Rig().Dev(d).Image() == x.Rig().Dev(d).Image()
			}
			s, _ := w.Vol().Status()
			u, _ := x.Vol().Status()
			if !same || s != u {
				t.Fatal(seed, i)
			}
		}
		for i := range w.Oracle().Len() {
			a, _, _ := w.Oracle().Input(i)
			if b, _, _ := x.Oracle().Input(i); a != b {
				t.Fatal(seed, "oracle", i)
			}
		}
		w.Do(api.Act{Kind: api.XCrash})
		x.Do(api.Act{Kind: api.XCrash})
		a, _ := w.Rig().Reg()
		b, _ := x.Rig().Reg()
		if _, e := reg.Get(a); a != b || e != api.OK {
			t.Fatal(seed, int(e))
		}
	}
}
