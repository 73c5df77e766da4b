package watch_test

import (
	"math"
	"math/rand"
	"strings"
	"testing"

	"cellaret/api"
	"cellaret/watch"
	"cellaret/world"
)

var zero = strings.Repeat("\x00", 48)

func judge(t *testing.T) *watch.Judge {
	t.Helper()
	j, e := watch.New(16)
	if e != api.OK || j == nil {
		t.Fatal(int(e))
	}
	return j
}

func act(kind int) api.Act { return api.Act{Kind: kind, B: 1} }

// line is an act, its answer, and the verdict.
type line struct {
	a    api.Act
	t    api.Told
	want int
}

func says(kind int, e api.Errno, want int) line { return line{act(kind), api.Told{E: e}, want} }

func write(at int, s string) line {
	return line{api.Act{Kind: api.XWrite, A: at, S: s}, api.Told{}, watch.Fine}
}

func read(at int, s string, want int) line {
	d := world.Data(s)
	return line{api.Act{Kind: api.XRead, A: at, B: len(d) / 48}, api.Told{S: d, N: 12345}, want}
}

func hears(t *testing.T, l ...line) *watch.Judge {
	t.Helper()
	j := judge(t)
	for i, x := range l {
		if v := j.Hear(x.a, x.t); v != x.want {
			t.Errorf("line %d, %+v, %d: %d, not %d", i, x.a, int(x.t.E), v, x.want)
		}
	}
	return j
}

func TestNew(t *testing.T) { // P30.1
	for _, n := range []int{0, 65, -1, math.MaxInt} {
		if j, e := watch.New(n); j != nil || e != api.ErrArg {
			t.Error(n)
		}
	}
	var none *watch.Judge
	if none.Hear(act(api.XFlush), api.Told{}) != watch.Wrong || none.Worlds() != 0 {
		t.Error("nil")
	}
	if watch.Fine != 0 || watch.Stopped != 1 || watch.Wrong != 2 || watch.Broken != 3 || judge(t).Worlds() != 1 {
		t.Error("verdicts")
	}
	hears(t, read(0, "", watch.Fine), read(15, "", watch.Fine))
}

const (
	fine    = watch.Fine
	stopped = watch.Stopped
	wrong   = watch.Wrong
)

func TestErrors(t *testing.T) { // P30.1
	for kind := 0; kind <= 24; kind++ {
		// Of an open volume, to which nothing was done.
		for _, e := range []api.Errno{api.ErrTamper, api.ErrIO, api.ErrDown, api.ErrFailed} {
			hears(t, says(kind, e, wrong))
		}
		verdict := func(may bool) int {
			if may {
				return fine
			}
			return wrong
		}
		uses, opens := kind >= 1 && kind <= 13, kind == 14 || kind == 15
		hears(t, says(kind, api.ErrState, verdict(opens)))
		hears(t, says(kind, api.ErrBusy, verdict(kind == 6 || kind == 8 || kind == 9 || kind == 10 || kind == 11)))
		hears(t, says(kind, api.ErrDirtyLost, verdict(kind == 15)))
		hears(t, says(kind, api.ErrKey, verdict(opens)), says(kind, api.ErrFormat, verdict(opens)))
		hears(t, says(kind, api.ErrArg, fine), says(kind, api.ErrRange, fine), says(kind, api.ErrExhausted, fine), says(kind, api.ErrNone, fine))
		// Of one that is not open.
		shut := says(api.XClose, api.OK, fine)
		hears(t, shut, says(kind, api.ErrState, verdict(uses)))
		if !uses {
			hears(t, shut, says(kind, api.OK, fine))
		} else if kind != api.XClose {
			hears(t, shut, line{act(kind), api.Told{S: zero}, wrong})
		}
		// Of one that is hurt.
		fault := says(api.XFault, api.OK, fine)
		hears(t, fault, says(api.XFlush, api.ErrIO, fine), says(kind, api.ErrFailed, fine))
		hears(t, fault, says(api.XFlush, api.ErrIO, fine), line{act(kind), api.Told{S: zero}, verdict(!uses || kind == 13)})
		// Where a step was to fail, the rig to go down, somebody did harm.
		hears(t, fault, says(kind, api.ErrIO, fine), says(kind, api.ErrDown, wrong), says(kind, api.ErrTamper, wrong))
		hears(t, says(api.XArm, api.OK, fine), says(kind, api.ErrDown, fine), says(kind, api.ErrIO, wrong))
		for _, harm := range []int{api.XTamper, api.XLater, api.XReturn, api.XCross} {
			hears(t, says(harm, api.OK, fine), says(kind, api.ErrTamper, stopped), says(kind, api.ErrIO, wrong))
		}
	}
	for _, kind := range []int{api.XFault, api.XArm, api.XTamper, api.XLater, api.XReturn, api.XCross} { // what was refused is not to come
		hears(t, says(kind, api.ErrArg, fine), says(api.XFlush, api.ErrIO, wrong), says(api.XFlush, api.ErrDown, wrong), says(api.XFlush, api.ErrTamper, wrong))
	}
	hears(t, says(api.XKeep, api.OK, fine), says(api.XFlush, api.ErrTamper, wrong))
}

func TestHurtAndCrash(t *testing.T) { // P30.1
	for _, c := range []struct {
		kind int
		e    api.Errno
		want int
	}{{api.XFault, api.ErrIO, fine}, {api.XArm, api.ErrDown, fine}, {api.XTamper, api.ErrTamper, stopped}} {
		hears(t, says(c.kind, api.OK, fine), says(api.XTick, api.ErrFailed, wrong), says(api.XTick, c.e, c.want), says(api.XTick, api.ErrFailed, fine),
			says(api.XTick, api.OK, wrong), says(api.XClose, api.OK, fine), says(api.XTick, api.ErrFailed, wrong), says(api.XOpen, c.e, c.want), says(api.XTick, api.ErrFailed, wrong),
			says(api.XOpen, api.OK, fine), says(api.XTick, api.ErrFailed, wrong), says(api.XTick, api.OK, fine))
	}
	hears(t, says(api.XArm, api.OK, fine), says(api.XFault, api.OK, fine), says(api.XTamper, api.OK, fine), says(api.XCrash, api.OK, fine),
		says(api.XOpen, api.ErrIO, wrong), says(api.XOpen, api.ErrDown, wrong), says(api.XOpen, api.ErrTamper, stopped), says(api.XFlush, api.OK, wrong), says(api.XFlush, api.ErrState, fine),
		says(api.XRebuild, api.OK, fine), says(api.XFlush, api.OK, fine), says(api.XOpen, api.ErrState, fine))
}

func TestData(t *testing.T) { // P30.1, P30.4
	hears(t, write(1, "a"), read(1, "a", fine), read(1, "b", wrong), read(0, "", fine), read(0, "a", wrong), read(1, "a", fine))
	hears(t, write(1, strings.Repeat("x", 50)), read(1, strings.Repeat("x", 50), fine), read(2, "xx", fine), read(2, "x", wrong))
	hears(t, line{api.Act{Kind: api.XFUA, A: 3, S: "f"}, api.Told{}, fine}, read(3, "f", fine), read(3, "", wrong))
	hears(t, write(1, "a"), line{api.Act{Kind: api.XDiscard, A: 0, B: 2}, api.Told{}, fine}, read(1, "", fine), read(1, "a", wrong))
	hears(t, line{api.Act{Kind: api.XWrite, A: 1, S: "a"}, api.Told{E: api.ErrExhausted}, fine}, read(1, "a", wrong), read(1, "", fine))
	for _, c := range []struct {
		b int
		s string
	}{{1, ""}, {1, zero[1:]}, {1, zero + zero}, {2, zero}, {0, ""}, {0, zero}, {-1, ""}, {math.MaxInt, ""}, {math.MinInt, ""}, {1 << 60, ""}, {17, strings.Repeat(zero, 17)}} {
		hears(t, line{api.Act{Kind: api.XRead, A: 0, B: c.b}, api.Told{S: c.s}, wrong})
	}
	hears(t, line{api.Act{Kind: api.XRead, A: 15, B: 2}, api.Told{S: zero + zero}, wrong}, line{api.Act{Kind: api.XRead, A: -1, B: 1}, api.Told{S: zero}, wrong})
}

func TestSafe(t *testing.T) { // P30.1
	crash, open := says(api.XCrash, api.OK, fine), says(api.XOpen, api.OK, fine)
	if n := hears(t, write(0, "a"), write(0, "b"), crash).Worlds(); n != 3 {
		t.Error(n)
	}
	hears(t, write(0, "a"), write(0, "b"), crash, open, read(0, "a", fine), read(0, "b", wrong), read(0, "", wrong))
	for kind := 1; kind <= 23; kind++ {
		e := line{act(kind), api.Told{}, fine}
		worlds := 2
		switch kind {
		case api.XFlush, api.XFUA, api.XSetMode, api.XAttach, api.XDetach, api.XInvalidate, api.XPromote, api.XDemote, api.XTick, api.XClose:
			worlds = 1
		case api.XRead:
			e.t.S = world.Data("a")
		case api.XWrite, api.XDiscard:
			worlds = 2 // the first block is 0 again
		}
		if n := hears(t, write(0, "a"), e, crash).Worlds(); n != worlds {
			t.Error(kind, n)
		}
		if kind != api.XWrite && kind != api.XFUA && kind != api.XDiscard && kind != api.XCrash {
			if n := hears(t, write(0, "a"), says(kind, api.ErrArg, fine)).Worlds(); kind != api.XClose && n != 1 {
				t.Error(kind, n)
			}
			if n := hears(t, write(0, "a"), says(kind, api.ErrArg, fine), crash).Worlds(); n != 2 {
				t.Error(kind, n)
			}
		}
	}
	// What did not answer OK may be, till it is hurt.
	for _, kind := range []int{api.XWrite, api.XFUA, api.XDiscard} {
		for _, c := range []struct {
			arm  int
			e    api.Errno
			want int
		}{{api.XFault, api.ErrIO, fine}, {api.XArm, api.ErrDown, fine}, {api.XTamper, api.ErrTamper, stopped}} {
			first := line{api.Act{Kind: kind, A: 1, B: 1, S: "z"}, api.Told{E: c.e}, c.want}
			again := line{api.Act{Kind: api.XWrite, A: 2, S: "y"}, api.Told{E: c.e}, c.want}
			n := hears(t, write(1, "a"), says(c.arm, api.OK, fine), first, again, crash).Worlds()
			if want := map[int]int{api.XWrite: 3, api.XFUA: 3, api.XDiscard: 2}[kind]; n != want {
				t.Error(kind, n)
			}
		}
	}
	// Closed as it should be, or not.
	fault := says(api.XFault, api.OK, fine)
	for _, c := range []struct {
		l      []line
		worlds int
	}{
		{[]line{says(api.XClose, api.OK, fine)}, 1}, {[]line{fault, says(api.XClose, api.ErrIO, fine)}, 2}, {[]line{fault, says(api.XRead, api.ErrIO, fine), says(api.XClose, api.OK, fine)}, 2},
		{[]line{says(api.XClose, api.OK, fine), says(api.XClose, api.ErrState, fine)}, 1},
	} {
		if n := hears(t, append([]line{write(0, "a")}, c.l...)...).Worlds(); n != c.worlds {
			t.Error(n)
		}
	}
}

func over(t *testing.T, g api.Geom) *watch.Watch {
	t.Helper()
	w, e := world.New(g, "k")
	if e != api.OK {
		t.Fatal(int(e))
	}
	x, e := watch.Over(w)
	if e != api.OK || x.World() != w || x.Judge() == nil {
		t.Fatal(int(e))
	}
	return x
}

func TestOver(t *testing.T) { // P30.2
	if x, e := watch.Over(nil); x != nil || e != api.ErrNil {
		t.Error(int(e))
	}
	var none *watch.Watch
	if a, v := none.Do(act(api.XFlush)); a != (api.Told{E: api.ErrNil}) || v != wrong || none.World() != nil || none.Judge() != nil {
		t.Error("nil")
	}
	w, _ := world.New(api.Geom{Blocks: 8, Slots: 1, MaxIV: 100}, "k")
	w.Do(act(api.XClose))
	if x, e := watch.Over(w); x != nil || e != api.ErrState {
		t.Error(int(e))
	}
	x := over(t, api.Geom{Blocks: 8, Slots: 1, MaxIV: 100})
	if a, v := x.Do(api.Act{Kind: api.XWrite, A: 7, S: "a"}); a.E != api.OK || v != fine {
		t.Error(int(a.E), v)
	}
	if a, v := x.Do(api.Act{Kind: api.XRead, A: 7, B: 1}); a != (api.Told{S: world.Data("a"), N: 48}) || v != fine {
		t.Error(int(a.E), v)
	}
	// Somebody wrote what nobody heard of.
	x.World().Do(api.Act{Kind: api.XWrite, A: 7, S: "b"})
	if _, v := x.Do(api.Act{Kind: api.XRead, A: 7, B: 1}); v != wrong {
		t.Error(v)
	}
	x.World().Do(act(api.XClose))
	if a, v := x.Do(act(api.XFlush)); a.E != api.ErrState || v != wrong {
		t.Error(v)
	}
	if x.Judge().Worlds() != 1 {
		t.Error("judge")
	}
}

// anything is an act of any kind, mostly such as may be.
func anything(rnd *rand.Rand, harm bool) api.Act {
	kinds := []int{1, 1, 1, 1, 2, 2, 2, 2, 2, 3, 4, 5, 5, 6, 7, 8, 9, 10, 10, 11, 12, 12, 12, 12, 12, 13, 14, 14, 14, 15, 16, 17, 18, 18, 24}
	if harm {
		kinds = append(kinds, 19, 20, 20, 21, 22, 23, 18, 14, 14)
	}
	a := api.Act{Kind: kinds[rnd.Intn(len(kinds))], A: rnd.Intn(34) - 1, B: rnd.Intn(9), C: 1 + rnd.Intn(150), S: strings.Repeat(string([]byte{byte(rnd.Intn(256))}), rnd.Intn(1+rnd.Intn(440)))}
	switch a.Kind {
	case api.XSetMode:
		a.A = rnd.Intn(3)
	case api.XPromote, api.XDemote, api.XInvalidate:
		a.A = rnd.Intn(9) - 1
	case api.XTick:
		a.A = rnd.Int()
	case api.XOpen, api.XRebuild:
		a.S = []string{"k", "k", "k", "k", "other"}[rnd.Intn(5)]
	case api.XArm, api.XFault:
		a.A = rnd.Intn(400)
	case api.XTamper, api.XLater, api.XReturn, api.XCross:
		a.A, a.B = rnd.Intn(2), rnd.Intn(288)
		if a.Kind == api.XCross && rnd.Intn(2) == 0 {
			a.C = a.B
		}
	case api.XCrash:
		for range rnd.Intn(64) {
			a.Slow.Keep = append(a.Slow.Keep, rnd.Intn(2) == 0)
			a.Fast.Keep = append(a.Fast.Keep, rnd.Intn(2) == 0)
		}
		a.Slow.Torn, a.Fast.Torn, a.Slow.Bytes = rnd.Intn(290), rnd.Intn(290), rnd.Intn(64)
	}
	return a
}

func TestNever(t *testing.T) { // P30.3, W2, W3
	read, told := 0, map[api.Errno]int{}
	for seed := range 400 {
		rnd := rand.New(rand.NewSource(int64(seed)))
		x := over(t, api.Geom{Blocks: 4 * (1 + rnd.Intn(8)), Slots: 1 + rnd.Intn(4), MaxIV: 1 + rnd.Intn(400)})
		for i := range 150 {
			a := anything(rnd, seed%2 == 1 && i > 30)
			y, v := x.Do(a)
			if v == watch.Wrong || v == watch.Broken || (v == stopped) != (y.E == api.ErrTamper) || y.E == api.ErrTamper && seed%2 == 0 {
				t.Fatalf("seed %d, act %d: %+v: %d, %q, verdict %d", seed, i, a, int(y.E), y.S, v)
			}
			if a.Kind == api.XRead && y.E == api.OK {
				read++
			}
			told[y.E]++
		}
	}
	for _, e := range []api.Errno{api.OK, api.ErrIO, api.ErrDown, api.ErrTamper, api.ErrState, api.ErrFailed, api.ErrBusy, api.ErrExhausted, api.ErrKey, api.ErrDirtyLost} {
		if told[e] == 0 {
			t.Error("never", int(e))
		}
	}
	if read < 800 {
		t.Error(read)
	}
}

func TestHearsWrong(t *testing.T) { // P30.4
	for seed := range 20 {
		rnd := rand.New(rand.NewSource(int64(seed)))
		x := over(t, api.Geom{Blocks: 16, Slots: 2, MaxIV: 1000})
		for range 40 {
			a := anything(rnd, false)
			if a.Kind < api.XRead || a.Kind > api.XTick {
				continue
			}
			y, _ := x.Do(a)
			if a.Kind != api.XRead || y.E != api.OK {
				continue
			}
			b := []byte(y.S)
			b[rnd.Intn(len(b))] ^= 0x55
			y.S = string(b)
			if v := x.Judge().Hear(a, y); v != wrong {
				t.Fatal(seed, v)
			}
		}
	}
}
