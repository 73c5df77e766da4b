package script_test

import (
	"math"
	"math/rand"
	"strings"
	"testing"

	"cellaret/api"
	"cellaret/script"
)

var (
	g    = api.Geom{Blocks: 8, Slots: 1, MaxIV: 100}
	long = strings.Repeat("\xa5", 512)
)

func keep(n int) []bool {
	l := make([]bool, n)
	for i := range l {
		l[i] = i%3 == 1
	}
	return l
}

// lines are acts, and how they stand.
var lines = []struct {
	a api.Act
	s string
}{
	{api.Act{Kind: api.XRead, A: 1, B: 2}, "read 1 2"}, {api.Act{Kind: api.XRead, A: -1, B: math.MinInt}, "read -1 -9223372036854775808"}, {api.Act{Kind: api.XWrite, A: 1, S: "a\xff\x0b"}, "write 1 61ff0b"}, {api.Act{Kind: api.XWrite}, "write 0 -"},
	{api.Act{Kind: api.XFUA, A: math.MaxInt, S: "z"}, "fua 9223372036854775807 7a"}, {api.Act{Kind: api.XFlush}, "flush"}, {api.Act{Kind: api.XDiscard, A: 3, B: 4}, "discard 3 4"}, {api.Act{Kind: api.XSetMode, A: 2}, "mode 2"},
	{api.Act{Kind: api.XAttach}, "attach"}, {api.Act{Kind: api.XDetach}, "detach"}, {api.Act{Kind: api.XInvalidate, A: 1, B: 2}, "invalidate 1 2"}, {api.Act{Kind: api.XPromote, A: 10}, "promote 10"}, {api.Act{Kind: api.XDemote, A: 3}, "demote 3"},
	{api.Act{Kind: api.XTick, A: 7}, "tick 7"}, {api.Act{Kind: api.XClose}, "close"}, {api.Act{Kind: api.XOpen, S: "k"}, "open 6b"}, {api.Act{Kind: api.XOpen}, "open -"}, {api.Act{Kind: api.XRebuild, S: "k"}, "rebuild 6b"}, {api.Act{Kind: api.XArm, A: 9}, "arm 9"}, {api.Act{Kind: api.XFault, A: 9}, "fault 9"},
	{api.Act{Kind: api.XCrash}, "crash :0:0 :0:0"}, {api.Act{Kind: api.XCrash, Slow: api.Loss{Keep: keep(5), Torn: -3, Bytes: 7}, Fast: api.Loss{Torn: 5, Bytes: -1}}, "crash 01001:-3:7 :5:-1"},
	{api.Act{Kind: api.XTamper, A: 1, B: 2, S: "t"}, "tamper 1 2 74"}, {api.Act{Kind: api.XLater, A: 1, B: 2, C: 3, S: "t"}, "later 3 1 2 74"}, {api.Act{Kind: api.XKeep}, "keep"}, {api.Act{Kind: api.XReturn, A: 1}, "return 1"}, {api.Act{Kind: api.XCross, A: 1, B: 2, C: 3}, "cross 1 2 3"},
	{api.Act{Kind: api.XWrite, S: long}, "write 0 " + strings.Repeat("a5", 512)}, {api.Act{Kind: api.XCrash, Slow: api.Loss{Keep: keep(64)}, Fast: api.Loss{Keep: keep(1)}}, "crash " + strings.Repeat("010", 22)[:64] + ":0:0 0:0:0"},
}

func TestLineParse(t *testing.T) { // P31.1, P31.4
	for _, c := range lines {
		s, e := script.Line(c.a)
		if e != api.OK || s != c.s {
			t.Errorf("%q, not %q, %d", s, c.s, int(e))
		}
		a, e := script.Parse(s)
		if e != api.OK || !script.Same(a, c.a) {
			t.Errorf("%q: %+v", s, a)
		}
	}
	if s, _ := script.Line(api.Act{Kind: api.XCrash, Slow: api.Loss{Keep: []bool{true, false, true}}, Fast: api.Loss{Keep: []bool{}}}); s != "crash 101:0:0 :0:0" {
		t.Error(s)
	}
}

func TestNoLine(t *testing.T) { // P31.1
	for _, c := range []api.Act{
		{}, {Kind: -1}, {Kind: 24}, {Kind: math.MaxInt}, {Kind: math.MinInt}, {Kind: api.XWrite, S: long + "x"}, {Kind: api.XCrash, Slow: api.Loss{Keep: keep(65)}}, {Kind: api.XCrash, Fast: api.Loss{Keep: keep(65)}},
		{Kind: api.XFlush, A: 1}, {Kind: api.XRead, C: 1}, {Kind: api.XRead, S: "x"}, {Kind: api.XWrite, B: 1}, {Kind: api.XTick, Slow: api.Loss{Torn: 1}}, {Kind: api.XTick, Fast: api.Loss{Bytes: 1}}, {Kind: api.XTick, Fast: api.Loss{Keep: keep(1)}}, {Kind: api.XCrash, A: 1}, {Kind: api.XCross, S: "x"}, {Kind: api.XTamper, C: 1},
	} {
		if s, e := script.Line(c); s != "" || e != api.ErrLine {
			t.Errorf("%+v: %q", c, s)
		}
	}
	for _, s := range []string{
		"", " ", "nothing", "Read 1 2", "read", "read 1", "read 1 2 3", "read  1 2", " read 1 2", "read 1 2 ", "read 01 2", "read +1 2", "read -0 2", "read 1 -", "read 1 2a", "read 1 9223372036854775808", "read -9223372036854775809 1", "read 1_0 2", "read 0x1 2", "read \u0661 2",
		"write 0", "write 0 ", "write 0 6", "write 0 6A", "write 0 6g", "write 0 --", "write - 61", "write 0 " + strings.Repeat("00", 513), "flush ", "flush 1", "open", "crash", "crash :0:0", "crash :0:0 :0:0:0", "crash 0:0 :0:0", "crash 012:0:0 :0:0", "crash :00:0 :0:0", "crash :0: :0:0", "crash ::0 :0:0",
		"crash " + strings.Repeat("1", 65) + ":0:0 :0:0", "crash :0:0 " + strings.Repeat("1", 65) + ":0:0", "tamper 1 2", "later 1 2 74", "cellaret 8 1 100 -", "read\t1 2", "flush\n", "write 0 61\x00",
	} {
		if a, e := script.Parse(s); !script.Same(a, api.Act{}) || e != api.ErrLine {
			t.Errorf("%q: %+v", s, a)
		}
	}
}

func TestSame(t *testing.T) { // P31.1
	a := func() api.Act {
		return api.Act{Kind: 1, A: 2, B: 3, C: 4, S: "s", Slow: api.Loss{Keep: keep(2), Torn: 1, Bytes: 2}, Fast: api.Loss{Keep: keep(3), Torn: 3, Bytes: 4}}
	}
	if !script.Same(a(), a()) || !script.Same(api.Act{Slow: api.Loss{Keep: []bool{}}}, api.Act{}) {
		t.Error("the same")
	}
	for i, change := range []func(*api.Act){
		func(x *api.Act) { x.Kind++ }, func(x *api.Act) { x.A++ }, func(x *api.Act) { x.B++ }, func(x *api.Act) { x.C++ }, func(x *api.Act) { x.S += "x" },
		func(x *api.Act) { x.Slow.Keep[1] = false }, func(x *api.Act) { x.Slow.Keep = keep(1) }, func(x *api.Act) { x.Slow.Torn++ }, func(x *api.Act) { x.Slow.Bytes++ },
		func(x *api.Act) { x.Fast.Keep = nil }, func(x *api.Act) { x.Fast.Torn++ }, func(x *api.Act) { x.Fast.Bytes++ },
	} {
		b := a()
		change(&b)
		if script.Same(a(), b) || script.Same(b, a()) {
			t.Error(i)
		}
	}
}

func TestHeadPrint(t *testing.T) { // P31.2
	for _, c := range []struct {
		g   api.Geom
		key string
		s   string
	}{{g, "", "cellaret 8 1 100 -"}, {g, "k\x01", "cellaret 8 1 100 6b01"}, {api.Geom{Blocks: 64, Slots: 8, MaxIV: 1 << 40}, long[:32], "cellaret 64 8 1099511627776 " + strings.Repeat("a5", 32)}} {
		if s, e := script.Head(c.g, c.key); s != c.s || e != api.OK {
			t.Error(s)
		}
		if s, e := script.Print(script.Play{G: c.g, Key: c.key}); s != c.s+"\n" || e != api.OK {
			t.Error(s)
		}
	}
	many := make([]api.Act, 513)
	for i := range many {
		many[i].Kind = api.XFlush
	}
	wrong := []api.Act{{Kind: api.XFlush}, {}}
	for i, c := range []struct {
		p script.Play
		e api.Errno
	}{
		{script.Play{G: api.Geom{}, L: many}, api.ErrArg}, {script.Play{G: g, Key: long[:33]}, api.ErrArg}, {script.Play{G: g, L: many}, api.ErrBig}, {script.Play{G: g, L: append(many[:512:512], wrong...)}, api.ErrBig}, {script.Play{G: g, L: wrong}, api.ErrLine},
	} {
		if s, e := script.Print(c.p); s != "" || e != c.e {
			t.Error(i, int(e))
		}
	}
	if s, e := script.Head(api.Geom{}, ""); s != "" || e != api.ErrArg {
		t.Error(int(e))
	}
	if s, e := script.Head(g, long[:33]); s != "" || e != api.ErrArg {
		t.Error(int(e))
	}
	s, e := script.Print(script.Play{G: g, L: many[:512]})
	if e != api.OK || s != "cellaret 8 1 100 -\n"+strings.Repeat("flush\n", 512) {
		t.Error(int(e))
	}
	if p, n, e := script.Read(s); len(p.L) != 512 || n != 0 || e != api.OK {
		t.Error(n, int(e))
	}
}

func TestRead(t *testing.T) { // P31.2
	head := "cellaret 8 1 100 -\n"
	for i, c := range []struct {
		s string
		n int
		e api.Errno
	}{
		{"", 1, api.ErrShort}, {"cellaret 8 1 100 -", 1, api.ErrShort}, {head + "flush", 2, api.ErrShort}, {head + "flush\nnothing", 3, api.ErrShort}, {"\n", 1, api.ErrLine}, {"flush\n", 1, api.ErrLine}, {head + "\n", 2, api.ErrLine}, {head + "flush\nnothing\nflush", 3, api.ErrLine},
		{"cellaret 7 1 100 -\n", 1, api.ErrLine}, {"cellaret 8 1 100\n", 1, api.ErrLine}, {"cellaret 8 1 100 - \n", 1, api.ErrLine}, {"cellaret 08 1 100 -\n", 1, api.ErrLine}, {"cellaret 8 1 100 6\n", 1, api.ErrLine}, {"Cellaret 8 1 100 -\n", 1, api.ErrLine}, {"cellaret 8 9 100 -\n", 1, api.ErrLine},
		{"cellaret 8 1 0 -\n", 1, api.ErrLine}, {"cellaret 8 1 100 " + strings.Repeat("00", 33) + "\n", 1, api.ErrLine}, {head + head, 2, api.ErrLine}, {head + "flush\r\n", 2, api.ErrLine},
		{head + strings.Repeat("flush\n", 513), 514, api.ErrBig}, {head + strings.Repeat("flush\n", 512) + "nothing\n", 514, api.ErrBig}, {head + strings.Repeat("flush\n", 512) + "nothing", 514, api.ErrShort},
		{strings.Repeat("x", 1<<20+1), 0, api.ErrBig}, {strings.Repeat("x", 1<<20), 1, api.ErrShort}, {strings.Repeat("\n", 1<<20+1), 0, api.ErrBig},
	} {
		p, n, e := script.Read(c.s)
		if p.G != (api.Geom{}) || p.Key != "" || p.L != nil || n != c.n || e != c.e {
			t.Error(i, n, int(e))
		}
		if s, e := script.Run(c.s); s != "" || e != c.e {
			t.Error(i, int(e))
		}
	}
	p, n, e := script.Read(head + "write 1 61\nclose\n")
	if p.G != g || p.Key != "" || len(p.L) != 2 || !script.Same(p.L[0], api.Act{Kind: api.XWrite, A: 1, S: "a"}) || !script.Same(p.L[1], api.Act{Kind: api.XClose}) || n != 0 || e != api.OK {
		t.Error(p, n, int(e))
	}
}

func TestRun(t *testing.T) { // P31.3
	s, e := script.Run("cellaret 8 1 100 -\nwrite 1 61\nread 1 1\n")
	if s != "0 0 - 0\n0 48 61"+strings.Repeat("00", 47)+" 0\nworlds 1\n" || e != api.OK {
		t.Error(s)
	}
	if s, e := script.Run("cellaret 8 1 100 -\n"); s != "worlds 1\n" || e != api.OK {
		t.Error(s)
	}
	s, e = script.Run("cellaret 8 2 100 6b\npromote 0\nfua 0 61\nwrite 0 62\ntick 5\nwrite 3 63\ndetach\nmode 3\ncrash :0:0 :0:0\nread 0 1\nopen -\nopen 6b\nkeep\ntamper 0 0 -\nread 9 1\nclose\nopen 6b\nreturn 0\nopen 6b\nflush\n")
	want := "0 0 - 0\n0 0 - 0\n0 0 - 0\n0 0 - 0\n0 0 - 0\n15 0 - 0\n2 0 - 0\n0 0 - 0\n14 0 - 0\n13 0 - 0\n0 0 - 0\n0 0 - 0\n0 0 - 0\n3 0 - 0\n0 0 - 0\n12 0 - 1\n0 0 - 0\n0 0 - 0\n0 0 - 0\nworlds 2\n"
	if s != want || e != api.OK {
		t.Error(s)
	}
}

// anything is an act that has a line.
func anything(rnd *rand.Rand, harm bool) api.Act {
	kinds := []int{1, 1, 1, 1, 1, 2, 2, 2, 2, 2, 3, 4, 5, 5, 6, 7, 8, 9, 10, 10, 11, 12, 12, 12, 12, 12, 13, 14, 14, 14, 14, 15, 16, 17, 18}
	if harm {
		kinds = append(kinds, 19, 20, 20, 21, 22, 23, 18, 14, 14)
	}
	a := api.Act{Kind: kinds[rnd.Intn(len(kinds))]}
	number := func() int {
		if rnd.Intn(40) == 0 {
			return []int{math.MinInt, math.MaxInt, -1, 1 << 40}[rnd.Intn(4)]
		}
		return rnd.Intn(9)
	}
	data := strings.Repeat(string([]byte{byte(rnd.Intn(256))}), rnd.Intn(1+rnd.Intn(500)))
	loss := func() api.Loss { return api.Loss{Keep: keep(rnd.Intn(65)), Torn: rnd.Intn(288), Bytes: rnd.Intn(64)} }
	switch a.Kind {
	case api.XRead, api.XDiscard, api.XInvalidate:
		a.A, a.B = number(), number()
	case api.XWrite, api.XFUA:
		a.A, a.S = number(), data
	case api.XSetMode:
		a.A = rnd.Intn(4)
	case api.XPromote, api.XDemote, api.XTick:
		a.A = number()
	case api.XOpen, api.XRebuild:
		a.S = []string{"k", "k", "k", "k", "k", "", "other"}[rnd.Intn(7)]
	case api.XArm, api.XFault:
		a.A = rnd.Intn(300)
	case api.XCrash:
		a.Slow, a.Fast = loss(), loss()
	case api.XTamper:
		a.A, a.B, a.S = rnd.Intn(2), rnd.Intn(288), data
	case api.XLater:
		a.A, a.B, a.C, a.S = rnd.Intn(2), rnd.Intn(288), 1+rnd.Intn(100), data
	case api.XReturn:
		a.A = rnd.Intn(3)
	case api.XCross:
		a.A, a.B, a.C = rnd.Intn(2), rnd.Intn(288), rnd.Intn(288)
	}
	return a
}

func TestBackNever(t *testing.T) { // P31.4, P31.5, W3, W8
	for seed := range 80 {
		rnd := rand.New(rand.NewSource(int64(seed)))
		p := script.Play{G: api.Geom{Blocks: 4 * (1 + rnd.Intn(4)), Slots: 1 + rnd.Intn(4), MaxIV: 1 + rnd.Intn(300)}, Key: "k"}
		for range rnd.Intn(200) {
			p.L = append(p.L, anything(rnd, seed%2 == 1))
		}
		s, e := script.Print(p)
		if e != api.OK {
			t.Fatal(seed, int(e))
		}
		q, n, e := script.Read(s)
		if e != api.OK || n != 0 || q.G != p.G || q.Key != p.Key || len(q.L) != len(p.L) {
			t.Fatal(seed, n, int(e))
		}
		for i := range p.L {
			if !script.Same(p.L[i], q.L[i]) {
				t.Fatal(seed, i)
			}
		}
		if again, e := script.Print(q); again != s || e != api.OK {
			t.Fatal(seed)
		}
		out, e := script.Run(s)
		if again, _ := script.Run(s); again != out || e != api.OK {
			t.Fatal(seed, "not the same again")
		}
		told := strings.Split(out, "\n")
		if len(told) != len(p.L)+2 || told[len(p.L)+1] != "" || !strings.HasPrefix(told[len(p.L)], "worlds ") {
			t.Fatal(seed, len(told))
		}
		for i := range p.L {
			w := strings.Split(told[i], " ")
			if len(w) != 4 || w[3] != "0" && (w[3] != "1" || w[0] != "12") || w[0] == "12" && seed%2 == 0 {
				t.Fatalf("seed %d, line %d: %s", seed, i, told[i])
			}
		}
	}
}

func TestReadPrints(t *testing.T) { // P31.4: whatever is read is printed as it was
	s := "cellaret 8 1 100 6b\n"
	for _, c := range lines {
		s += c.s + "\n"
	}
	rnd := rand.New(rand.NewSource(1))
	read := 0
	for range 20000 {
		b := []byte(s)
		for range 1 + rnd.Intn(2) {
			b[rnd.Intn(200)] = "0123456789abcdef-: \nk"[rnd.Intn(21)]
		}
		p, _, e := script.Read(string(b))
		if e != api.OK {
			continue
		}
		read++
		if again, e := script.Print(p); again != string(b) || e != api.OK {
			t.Fatalf("%q", b)
		}
	}
	if read < 100 {
		t.Error(read)
	}
}
