package store_test

import (
	"math"
	"math/rand"
	"strings"
	"testing"

	"cellaret/api"
	"cellaret/geom"
	"cellaret/jrnl"
	"cellaret/node"
	"cellaret/oracle"
	"cellaret/reg"
	"cellaret/rig"
	"cellaret/store"
)

var (
	g     = api.Geom{Blocks: 16, Slots: 2, MaxIV: 100}
	check = strings.Repeat("c", 32)
)

func full(c string) string { return strings.Repeat(c, 64) }

func block(i int) string { return full(string([]byte{byte(1 + i%255)})) }

func formatted(t *testing.T) (*rig.Rig, *store.Store) {
	t.Helper()
	r := rig.New()
	s, e := store.Format(r, nil, g, check)
	if e != api.OK || s == nil {
		t.Fatal(int(e))
	}
	return r, s
}

func opened(t *testing.T, r *rig.Rig) *store.Store {
	t.Helper()
	s, c, e := store.Open(r, nil)
	if e != api.OK || c != check {
		t.Fatal(int(e), c)
	}
	return s
}

func ok(t *testing.T, l ...api.Errno) {
	t.Helper()
	for i, e := range l {
		if e != api.OK {
			t.Fatal(i, int(e))
		}
	}
}

func get(t *testing.T, s *store.Store, d, leaf int, want string) {
	t.Helper()
	b, there, e := s.Get(d, leaf)
	if e != api.OK || b != want || there != (want != "") {
		t.Fatalf("device %d, leaf %d: %.3q %v %d, not %.3q", d, leaf, b, there, int(e), want)
	}
}

func register(t *testing.T, r *rig.Rig) api.Reg {
	t.Helper()
	c := r.Copy()
	c.Crash(api.Loss{}, api.Loss{})
	text, _ := c.Reg()
	x, e := reg.Get(text)
	ok(t, e)
	return x
}

func setRegister(t *testing.T, r *rig.Rig, x api.Reg) {
	t.Helper()
	text, e := reg.Put(x)
	ok(t, e, r.SetReg(text))
}

func TestFormat(t *testing.T) { // P19.1
	r := rig.New()
	for i, c := range []struct {
		r     *rig.Rig
		g     api.Geom
		check string
		e     api.Errno
	}{{nil, api.Geom{}, "", api.ErrNil}, {r, api.Geom{}, check, api.ErrArg}, {r, g, "x", api.ErrArg}} {
		if s, e := store.Format(c.r, nil, c.g, c.check); s != nil || e != c.e {
			t.Error(i, int(e))
		}
	}
	if r.Calls() != 0 {
		t.Error("steps")
	}
	r.Write(1, 224, full("x"))
	s, e := store.Format(r, nil, g, check)
	ok(t, e, s.Failed())
	if r.Calls() != 1+1+2*128+2+1 {
		t.Error(r.Calls())
	}
	super, _ := geom.Super(g, check)
	want := api.Reg{Epoch: 1, Attached: true, Used: [2]int{1, 1}}
	_, root, _ := node.Bare(nil, 6)
	for d := range 2 {
		if len(r.Dev(d).Unsafe()) != 0 {
			t.Error("not flushed", d)
		}
		for n := range 63 {
			h, _ := node.High(n)
			b, _, _ := node.Bare(nil, h)
			if x, _ := r.Dev(d).Read(161 + n); x != b {
				t.Error(d, n)
			}
		}
		for leaf := range 64 {
			if x, _ := r.Dev(d).Read(224 + leaf); x != full("\x00") {
				t.Error(d, leaf)
			}
			get(t, s, d, leaf, "")
		}
		j, e := jrnl.Begin(rig.New(), nil, jrnl.Where{Super: super, D: d, Area: 0}, api.Record{Root: root})
		ok(t, e)
		want.Anchors[d] = j.Anchor()
		if _, _, e := jrnl.Load(r, nil, jrnl.Where{Super: super, D: d, Area: 0}, 1, j.Anchor()); e != api.OK {
			t.Error(d, int(e))
		}
	}
	if b, _ := r.Dev(0).Read(0); b != super {
		t.Error("first block")
	}
	if b, _ := r.Dev(1).Read(0); b != full("\x00") {
		t.Error("the fast device has a first block")
	}
	if s.Reg() != want || register(t, r) != want || s.Geom() != g {
		t.Error(s.Reg())
	}
	for n := 1; n <= 260; n += 7 {
		r := rig.New()
		r.Fault(n)
		if s, e := store.Format(r, nil, g, check); s != nil || e != api.ErrIO || r.Calls() != n {
			t.Error(n, int(e))
		}
	}
}

func TestOpenErrors(t *testing.T) { // P19.2
	if s, c, e := store.Open(nil, nil); s != nil || c != "" || e != api.ErrNil {
		t.Error(int(e))
	}
	open := func(r *rig.Rig, want api.Errno) {
		t.Helper()
		before := r.Dev(0).Image() + r.Dev(1).Image()
		if s, c, e := store.Open(r, nil); s != nil || c != "" || e != want {
			t.Error(int(e))
		}
		if r.Dev(0).Image()+r.Dev(1).Image() != before {
			t.Error("changed")
		}
	}
	open(rig.New(), api.ErrFormat)
	r := rig.New()
	r.SetReg(strings.Repeat("x", 96))
	open(r, api.ErrForm)
	r, s := formatted(t)
	ok(t, s.Put(0, 1, full("a")), s.Put(1, 2, full("b")), s.Commit())
	harm := func(d, at int) *rig.Rig {
		c := r.Copy()
		b, _ := c.Dev(d).Read(at)
		c.Tamper(d, at, b[:5]+string([]byte{b[5] ^ 1})+b[6:])
		return c
	}
	c := r.Copy()
	c.Tamper(0, 0, full("x"))
	open(c, api.ErrTamper)
	open(harm(0, 0), api.ErrTamper) // another geometry
	for _, d := range []int{0, 1} {
		for at := 1; at <= 1+9; at++ {
			open(harm(d, at), api.ErrTamper)
		}
	}
	x := s.Reg()
	x.Epoch = 1<<32 - 1
	c = r.Copy()
	setRegister(t, c, x)
	open(c, api.ErrExhausted)
	x.Epoch--
	c = r.Copy()
	setRegister(t, c, x)
	if s := opened(t, c); s.Reg().Epoch != 1<<32-1 {
		t.Error(s.Reg().Epoch)
	}
	x.Used[0] = 0
	c = r.Copy()
	setRegister(t, c, x)
	open(c, api.ErrTamper)
	c = r.Copy()
	before := c.Calls()
	opened(t, c)
	for n := 1; n <= c.Calls()-before; n++ {
		c := r.Copy()
		c.Fault(n)
		if s, _, e := store.Open(c, nil); s != nil || e != api.ErrIO {
			t.Error(n, int(e))
		}
		get(t, opened(t, c), 0, 1, full("a"))
	}
}

func TestOpen(t *testing.T) { // P19.2
	r, s := formatted(t)
	ok(t, s.Put(0, 1, full("a")), s.Put(1, 2, full("b")), s.Commit(), s.Put(0, 1, full("c")), s.Commit(), s.Put(0, 9, full("n")), s.Raise(7), s.Say(2, 0), s.Commit())
	was := s.Reg()
	r.Crash(api.Loss{Torn: -1}, api.Loss{Torn: -1})
	if b, _ := r.Dev(0).Read(233); b == full("n") {
		t.Error("the last commit's blocks are safe without a flush")
	}
	s = opened(t, r)
	x := s.Reg()
	if x.Epoch != was.Epoch+1 || x.Area != [2]int{1, 1} || x.Used != [2]int{1, 1} || x.IV != 7 || x.Dirty != 2 || x.Mode != 0 || !x.Attached || register(t, r) != x || s.Geom() != g {
		t.Error(x)
	}
	super, _ := geom.Super(g, check)
	if _, l, e := jrnl.Load(r, nil, jrnl.Where{Super: super, D: 0, Area: 1}, 1, x.Anchors[0]); e != api.OK || l[0].Seq != 3 {
		t.Error(int(e))
	}
	get(t, s, 0, 1, full("c"))
	get(t, s, 1, 2, full("b"))
	get(t, s, 0, 9, full("n"))
	if s = opened(t, r); s.Reg().Area != [2]int{0, 0} || s.Reg().Epoch != was.Epoch+2 {
		t.Error(s.Reg())
	}
}

func TestRebuild(t *testing.T) { // P19.3
	if s, c, e := store.Rebuild(nil, nil); s != nil || c != "" || e != api.ErrNil {
		t.Error(int(e))
	}
	if s, _, e := store.Rebuild(rig.New(), nil); s != nil || e != api.ErrFormat {
		t.Error(int(e))
	}
	r, s := formatted(t)
	ok(t, s.Put(0, 1, full("a")), s.Put(1, 2, full("b")), s.Say(1, 0), s.Commit())
	before := r.Dev(0).Image() + r.Dev(1).Image()
	was := register(t, r)
	if s, c, e := store.Rebuild(r, nil); s != nil || c != "" || e != api.ErrDirtyLost || r.Dev(0).Image()+r.Dev(1).Image() != before || register(t, r) != was {
		t.Error(int(e))
	}
	ok(t, s.Say(0, 2), s.Commit())
	for at := range 288 {
		r.Tamper(1, at, full("?"))
	}
	if _, _, e := store.Open(r, nil); e != api.ErrTamper {
		t.Error(int(e))
	}
	epoch := s.Reg().Epoch
	s, c, e := store.Rebuild(r, nil)
	if e != api.OK || c != check {
		t.Fatal(int(e))
	}
	x := s.Reg()
	if x.Epoch != epoch+1 || !x.Attached || x.Mode != 2 || x.Area[1] != 0 || x.Used[1] != 1 || register(t, r) != x {
		t.Error(x)
	}
	get(t, s, 0, 1, full("a"))
	get(t, s, 1, 2, "")
	ok(t, s.Put(1, 2, full("d")), s.Commit(), s.Detach(), s.Commit())
	s, _, e = store.Rebuild(r, nil)
	if e != api.OK || s.Reg().Attached {
		t.Error(int(e))
	}
	r.Tamper(0, 0, full("x"))
	if s, _, e := store.Rebuild(r, nil); s != nil || e != api.ErrTamper {
		t.Error(int(e))
	}
	// It may crash at any step: what the slow device has is there, attached or not.
	r, s = formatted(t)
	ok(t, s.Put(0, 1, full("a")), s.Put(1, 2, full("b")), s.Commit())
	for n := 1; ; n++ {
		c := r.Copy()
		c.Arm(n)
		_, _, e := store.Rebuild(c, nil)
		if e == api.OK {
			break
		}
		if e != api.ErrDown {
			t.Fatal(n, int(e))
		}
		c.Crash(api.Loss{Torn: n % 288, Bytes: n % 64}, api.Loss{Torn: -1})
		s := opened(t, c)
		get(t, s, 0, 1, full("a"))
		if s.Reg().Attached {
			get(t, s, 1, 2, full("b"))
		}
	}
}

func TestGetPutErrors(t *testing.T) { // P19.4
	var none *store.Store
	b, there, e := none.Get(9, 99)
	if b != "" || there || e != api.ErrNil || none.Put(9, 99, "") != api.ErrNil || none.Clear(9, 99) != api.ErrNil {
		t.Error("nil")
	}
	_, s := formatted(t)
	for i, c := range []struct {
		d, leaf int
		b       string
		e       api.Errno
	}{{2, 99, "", api.ErrArg}, {-1, 0, full("a"), api.ErrArg}, {math.MaxInt, 0, full("a"), api.ErrArg}, {0, 64, "", api.ErrRange}, {1, -1, "", api.ErrRange}, {1, 0, "x", api.ErrForm}} {
		if e := s.Put(c.d, c.leaf, c.b); e != c.e {
			t.Error(i, int(e))
		}
		_, _, e := s.Get(c.d, c.leaf)
		if f := s.Clear(c.d, c.leaf); c.e != api.ErrForm && (e != c.e || f != c.e) {
			t.Error(i, int(e))
		}
	}
	ok(t, s.Commit(), s.Put(0, 5, full("a")), s.Put(1, 5, full("b")), s.Put(0, 6, full("\x00")))
	get(t, s, 0, 5, full("a"))
	get(t, s, 1, 5, full("b"))
	get(t, s, 0, 6, "")
	ok(t, s.Clear(0, 5))
	get(t, s, 0, 5, "")
	if _, _, e := s.Get(0, 64); e != api.ErrRange || s.Failed() != api.OK {
		t.Error(int(e))
	}
	ok(t, s.Detach())
	_, _, e = s.Get(1, 99)
	if e != api.ErrState || s.Put(1, 99, "") != api.ErrState || s.Clear(1, 99) != api.ErrState || s.Put(2, 0, "") != api.ErrArg {
		t.Error(int(e))
	}
	ok(t, s.Put(0, 5, full("z")))
}

func TestFull(t *testing.T) { // P19.4
	_, s := formatted(t)
	n := 0
	for leaf := 0; s.Waiting(0) <= 57; leaf += 3 {
		ok(t, s.Put(0, leaf, block(leaf)))
		n = leaf
	}
	if w := s.Waiting(0); w < 58 || w > 64 {
		t.Error(w)
	}
	if s.Put(0, 99, "") != api.ErrFull || s.Put(0, 0, full("x")) != api.ErrFull || s.Clear(0, 0) != api.ErrFull || s.Put(2, 0, "") != api.ErrArg {
		t.Error("full")
	}
	ok(t, s.Put(1, 0, full("x")), s.Commit())
	for leaf := 0; leaf <= n; leaf += 3 {
		get(t, s, 0, leaf, block(leaf))
	}
	ok(t, s.Put(0, 0, full("x")))
}

func TestJustFull(t *testing.T) { // P19.4: with 57 blocks there is room, with 58 there is none
	_, s := formatted(t)
	leaf := 0
	for ; s.Waiting(1) <= 50; leaf += 4 {
		ok(t, s.Put(1, leaf, block(leaf)))
	}
	for leaf = 1; s.Waiting(1) < 57; leaf += 4 { // beside a leaf that was put: one block more
		ok(t, s.Put(1, leaf, block(leaf)))
	}
	if s.Waiting(1) != 57 {
		t.Fatal(s.Waiting(1))
	}
	ok(t, s.Put(1, 0, block(9)), s.Clear(1, 0), s.Put(1, leaf, block(leaf)))
	if s.Waiting(1) != 58 || s.Put(1, 0, block(9)) != api.ErrFull || s.Clear(1, 0) != api.ErrFull {
		t.Error(s.Waiting(1))
	}
	ok(t, s.Commit())
	get(t, s, 1, leaf, block(leaf))
}

func TestCommit(t *testing.T) { // P19.5
	var none *store.Store
	if none.Commit() != api.ErrNil || none.Say(0, 0) != api.ErrNil || none.Raise(0) != api.ErrNil || none.Attach() != api.ErrNil || none.Detach() != api.ErrNil {
		t.Error("nil")
	}
	r, s := formatted(t)
	steps := func(want int, l ...func() api.Errno) {
		t.Helper()
		before := r.Calls()
		for _, f := range l {
			ok(t, f())
		}
		if n := r.Calls() - before; n != want {
			t.Error("steps", n, want)
		}
	}
	steps(0, s.Commit)
	ok(t, s.Put(0, 5, full("a")))
	if s.Waiting(0) != 7 || s.Waiting(1) != 0 {
		t.Error("Waiting")
	}
	was := s.Reg()
	steps(9+1+1+7, s.Commit) // a record of 9 blocks, a flush, the register, 7 blocks
	x := s.Reg()
	if x.Used != [2]int{10, 1} || x.Anchors[1] != was.Anchors[1] || x.Anchors[0] == was.Anchors[0] || x.Epoch != 1 || register(t, r) != x || s.Waiting(0) != 0 {
		t.Error(x)
	}
	if u := r.Dev(0).Unsafe(); len(u) != 7 || u[0] < 161 { // blocks go home behind the register
		t.Error(u)
	}
	if b, _ := r.Dev(0).Read(224 + 5); b != full("a") {
		t.Error("not home")
	}
	ok(t, s.Say(0, 1))
	if s.Reg() != x || register(t, r) != x {
		t.Error("said at once")
	}
	steps(1, s.Commit)
	if s.Reg().Mode != 1 || s.Reg().Used != x.Used {
		t.Error(s.Reg())
	}
	steps(0, s.Commit)
	ok(t, s.Say(0, 2), s.Say(0, 1))
	steps(0, s.Commit)
	ok(t, s.Put(0, 5, full("b")), s.Put(1, 5, full("c")))
	steps(18+2+1+14, s.Commit)
}

func TestNewAreas(t *testing.T) { // P19.5
	r, s := formatted(t)
	seq := 0
	for i := range 12 {
		ok(t, s.Put(1, 9, block(i)))
		if i == 8 {
			ok(t, s.Say(1, 0))
		}
		was, before := s.Reg(), r.Calls()
		ok(t, s.Commit())
		x := s.Reg()
		seq++
		if was.Used[1]+9 <= 80 {
			if x.Area != was.Area || x.Used[1] != was.Used[1]+9 || r.Calls()-before != 18 {
				t.Error(i, x, r.Calls()-before)
			}
			continue
		}
		if x.Area != [2]int{1, 1} || x.Used != [2]int{1, 10} || r.Calls()-before != 2+2+2+1+18 || x.Anchors[0] == was.Anchors[0] {
			t.Error(i, x, r.Calls()-before)
		}
		super, _ := geom.Super(g, check)
		if _, l, e := jrnl.Load(r, nil, jrnl.Where{Super: super, D: 1, Area: 1}, 10, x.Anchors[1]); e != api.OK || l[0].Seq != seq-1 || l[1].Seq != seq {
			t.Error(int(e))
		}
	}
	for d := range 2 {
		get(t, opened(t, r), d, 9, []string{"", block(11)}[d])
	}
	// The register says nothing new in a new area alone.
	r, s = formatted(t)
	for i := range 8 {
		ok(t, s.Put(0, 9, block(i)), s.Commit())
	}
	ok(t, s.Put(0, 9, block(8)), s.Say(1, 0))
	r.Fault(2 + 2 + 2 + 1 + 1)
	if s.Commit() != api.ErrIO || register(t, r).Dirty != 0 || register(t, r).Area[0] != 1 {
		t.Error(register(t, r))
	}
}

func TestSayRaise(t *testing.T) { // P19.5
	r, s := formatted(t)
	for i, c := range [][2]int{{-1, 0}, {9, 0}, {0, -1}, {0, 3}, {1, 1}, {1, 2}, {math.MaxInt, math.MinInt}} {
		if s.Say(c[0], c[1]) != api.ErrArg {
			t.Error(i)
		}
	}
	ok(t, s.Commit(), s.Raise(0), s.Raise(16))
	was := s.Reg()
	if was.IV != 16 || register(t, r) != was || was.Epoch != 1 {
		t.Error(was)
	}
	for _, iv := range []int{15, -1, 1<<40 + 1, math.MinInt, math.MaxInt} {
		if s.Raise(iv) != api.ErrArg || s.Reg() != was {
			t.Error(iv)
		}
	}
	ok(t, s.Say(3, 0), s.Put(0, 1, full("a")), s.Raise(1<<40))
	if x := register(t, r); x.Dirty != 0 || x.IV != 1<<40 || x.Anchors != was.Anchors {
		t.Error(x)
	}
	ok(t, s.Commit())
	if x := register(t, r); x.Dirty != 3 || x.IV != 1<<40 {
		t.Error(x)
	}
	ok(t, s.Say(0, 0), s.Detach())
	if s.Say(1, 0) != api.ErrArg || s.Say(0, 2) != api.OK {
		t.Error("not attached")
	}
}

func TestAttachDetach(t *testing.T) { // P19.6
	r, s := formatted(t)
	ok(t, s.Put(0, 1, full("a")), s.Put(1, 2, full("b")))
	before := r.Calls()
	ok(t, s.Attach())
	if r.Calls() != before || s.Waiting(0) != 7 {
		t.Error("attached already")
	}
	ok(t, s.Say(1, 0))
	if s.Detach() != api.ErrBusy || r.Calls() != before || s.Failed() != api.OK {
		t.Error("busy")
	}
	ok(t, s.Commit(), s.Say(0, 0), s.Put(0, 1, full("c")), s.Detach())
	x := s.Reg()
	if x.Attached || x.Used[1] != 0 || x.Area[1] != 0 || x.Anchors[1] != (api.Digest{}) || x.Dirty != 0 || register(t, r) != x || s.Waiting(0) != 0 || s.Waiting(1) != 0 {
		t.Error(x)
	}
	before = r.Calls()
	ok(t, s.Detach())
	if r.Calls() != before {
		t.Error("detached already", r.Calls()-before)
	}
	ok(t, s.Put(0, 3, full("d")), s.Attach())
	if s.Waiting(0) != 0 || len(r.Dev(1).Unsafe()) != 0 {
		t.Error("Attach")
	}
	get(t, s, 1, 2, "")
	get(t, s, 0, 1, full("c"))
	get(t, s, 0, 3, full("d"))
	if x := s.Reg(); !x.Attached || x.Used[1] != 1 || x.Area[1] != 0 || register(t, r) != x {
		t.Error(x)
	}
	ok(t, s.Put(1, 2, full("e")), s.Commit())
	get(t, opened(t, r), 1, 2, full("e"))
}

func TestLooks(t *testing.T) { // P19.7
	var none *store.Store
	if none.Waiting(0) != 0 || none.Reg() != (api.Reg{}) || none.Geom() != (api.Geom{}) || none.Failed() != api.ErrNil {
		t.Error("nil")
	}
	_, s := formatted(t)
	if s.Waiting(-1) != 0 || s.Waiting(2) != 0 || s.Waiting(math.MaxInt) != 0 || s.Failed() != api.OK {
		t.Error("looks")
	}
}

func TestFails(t *testing.T) { // P19.4 .. P19.7
	for _, c := range []struct {
		break_      func(r *rig.Rig)
		told, later api.Errno
	}{
		{func(r *rig.Rig) { r.Fault(1) }, api.ErrIO, api.ErrFailed},
		{func(r *rig.Rig) { r.Arm(1) }, api.ErrDown, api.ErrDown},
		{func(r *rig.Rig) { r.Tamper(0, 161+2, full("x")) }, api.ErrTamper, api.ErrTamper},
	} {
		r, s := formatted(t)
		ok(t, s.Put(0, 1, full("a")), s.Commit())
		was := s.Reg()
		c.break_(r)
		if b, there, e := s.Get(0, 63); b != "" || there || e != c.told || s.Failed() != c.later {
			t.Error(int(e))
		}
		r.Crash(api.Loss{}, api.Loss{})
		before := r.Calls()
		_, _, e := s.Get(9, 9)
		for i, e := range []api.Errno{e, s.Put(9, 9, ""), s.Clear(9, 9), s.Commit(), s.Say(99, 99), s.Raise(-1), s.Attach(), s.Detach()} {
			if e != c.later {
				t.Error(i, int(e))
			}
		}
		if r.Calls() != before || s.Reg() != was || s.Geom() != g {
			t.Error("steps")
		}
	}
}

// A run puts, clears, commits, raises, attaches and detaches, till it goes down; then is what was committed last, and what was going on.
type run struct {
	s              *store.Store
	now, safe, may [2]map[int]string
}

func clone(m [2]map[int]string) [2]map[int]string {
	var c [2]map[int]string
	for d := range m {
		if m[d] == nil {
			continue
		}
		c[d] = map[int]string{}
		for k, v := range m[d] {
			c[d][k] = v
		}
	}
	return c
}

func (x *run) step(rnd *rand.Rand, i int) api.Errno {
	d := rnd.Intn(2)
	attached := x.now[1] != nil
	switch k := rnd.Intn(12); {
	case k < 6:
		if d == 1 && !attached || x.s.Waiting(d) > 57 {
			return api.OK
		}
		leaf, b := rnd.Intn(64), block(i)
		if k == 5 {
			delete(x.now[d], leaf)
			return x.s.Clear(d, leaf)
		}
		x.now[d][leaf] = b
		return x.s.Put(d, leaf, b)
	case k < 9:
		return x.all(x.s.Commit())
	case k == 9:
		return x.s.Raise(x.s.Reg().IV + 1)
	case k == 10 && !attached:
		e := x.s.Attach()
		if e == api.OK {
			x.now[1] = map[int]string{}
		}
		return x.all(e)
	case k == 10 && i%3 == 0:
		e := x.s.Detach()
		if e == api.OK {
			x.now[1] = nil
		}
		return x.all(e)
	}
	return api.OK
}

// all is what a commit comes to.
func (x *run) all(e api.Errno) api.Errno {
	x.may = clone(x.now)
	if e == api.OK {
		x.safe = clone(x.now)
	}
	return e
}

func holds(s *store.Store, m [2]map[int]string) bool {
	for d := range 2 {
		if d == 1 && !s.Reg().Attached {
			continue // Detach and Attach begin with a commit: what it has besides is there then
		}
		for leaf := range 64 {
			b, _, e := s.Get(d, leaf)
			if e != api.OK || b != m[d][leaf] {
				return false
			}
		}
	}
	return true
}

func loss(rnd *rand.Rand) api.Loss {
	x := api.Loss{Torn: rnd.Intn(300) - 5, Bytes: rnd.Intn(70) - 3}
	n := rnd.Intn(66)
	for range n {
		x.Keep = append(x.Keep, rnd.Intn(2) == 0)
	}
	return x
}

func TestKept(t *testing.T) { // P19.8
	for seed := range 150 {
		rnd := rand.New(rand.NewSource(int64(seed)))
		r, s := formatted(t)
		x := &run{s: s, now: [2]map[int]string{{}, {}}}
		x.all(api.OK)
		for range 4 {
			r.Arm(1 + rnd.Intn(600))
			e := api.OK
			for i := 0; e == api.OK; i++ {
				x.may = x.safe
				e = x.step(rnd, i)
			}
			if e != api.ErrDown {
				t.Fatal(seed, int(e))
			}
			r.Crash(loss(rnd), loss(rnd))
			for tries := 0; ; tries++ { // opening may crash, too
				if tries < 3 {
					r.Arm(1 + rnd.Intn(250))
				}
				s, _, e = store.Open(r, nil)
				if e == api.OK {
					break
				}
				if e != api.ErrDown {
					t.Fatal(seed, int(e))
				}
				r.Crash(loss(rnd), loss(rnd))
			}
			r.Crash(api.Loss{Torn: -1}, api.Loss{Torn: -1}) // what was opened is safe
			s = opened(t, r)
			x.s = s
			switch {
			case holds(s, x.safe):
				x.now = clone(x.safe)
			case holds(s, x.may):
				x.now = clone(x.may)
			default:
				t.Fatal(seed, "neither all nor none")
			}
			if !s.Reg().Attached {
				x.now[1] = nil
			} else if x.now[1] == nil {
				x.now[1] = map[int]string{}
			}
			x.all(api.OK)
		}
	}
}

func TestEachStep(t *testing.T) { // P19.8
	r0, s0 := formatted(t)
	ok(t, s0.Put(0, 1, full("a")), s0.Put(1, 2, full("b")), s0.Commit())
	for i := range 7 { // the next commit needs new areas
		ok(t, s0.Put(0, 1, block(i)), s0.Commit())
	}
	for n := 1; ; n++ {
		r := r0.Copy()
		s := opened(t, r)
		for i := range 7 {
			ok(t, s.Put(0, 1, block(i)), s.Commit())
		}
		ok(t, s.Put(0, 1, full("x")), s.Put(0, 40, full("z")), s.Put(1, 2, full("y")))
		r.Arm(n)
		e := s.Commit()
		if e == api.OK {
			if n < 40 {
				t.Error(n)
			}
			break
		}
		for k := range 4 {
			c := r.Copy()
			l := [4]api.Loss{{Torn: -1}, {Keep: slicesOf(true)}, {Keep: slicesOf(false, true), Torn: n % 288, Bytes: 31}, {Torn: 229, Bytes: n}}[k]
			c.Crash(l, l)
			s := opened(t, c)
			b, _, e := s.Get(0, 1)
			ok(t, e)
			switch b {
			case full("x"):
				get(t, s, 0, 40, full("z"))
				get(t, s, 1, 2, full("y"))
			default:
				get(t, s, 0, 1, block(6))
				get(t, s, 0, 40, "")
				get(t, s, 1, 2, full("b"))
			}
		}
	}
}

func slicesOf(l ...bool) []bool {
	var out []bool
	for i := range 64 {
		out = append(out, l[i%len(l)])
	}
	return out
}

func TestTampered(t *testing.T) { // P19.9
	for seed := range 40 {
		rnd := rand.New(rand.NewSource(int64(seed)))
		r, o := rig.New(), oracle.New()
		s, e := store.Format(r, o, g, check)
		ok(t, e)
		model := [2][64]string{}
		old := [2]string{r.Dev(0).Image(), r.Dev(1).Image()}
		for i := range 40 {
			d, leaf := rnd.Intn(2), rnd.Intn(64)
			model[d][leaf] = block(i)
			ok(t, s.Put(d, leaf, block(i)))
			if i%5 == 4 {
				ok(t, s.Commit())
			}
		}
		for range 1 + rnd.Intn(3) {
			d, at := rnd.Intn(2), rnd.Intn(288)
			switch rnd.Intn(3) {
			case 0:
				r.Tamper(d, at, old[d][64*at:64*at+64])
			case 1:
				b, _ := r.Dev(1 - d).Read(at)
				r.Tamper(d, at, b)
			case 2:
				for at := range 288 {
					r.Tamper(d, at, old[d][64*at:64*at+64])
				}
			}
		}
		if rnd.Intn(2) == 0 {
			if s, _, e = store.Open(r, o); e != api.OK {
				if e != api.ErrTamper {
					t.Fatal(seed, int(e))
				}
				continue
			}
		}
		for d := range 2 {
			for leaf := range 64 {
				b, _, e := s.Get(d, leaf)
				if e == api.ErrTamper {
					continue
				}
				if e != api.OK || b != model[d][leaf] {
					if _, _, found := o.Collide(); !found {
						t.Fatal(seed, d, leaf, int(e))
					}
				}
			}
		}
	}
}
