package cache_test

import (
	"math"
	"math/rand"
	"strings"
	"testing"

	"cellaret/api"
	"cellaret/auth"
	"cellaret/cache"
	"cellaret/ctr"
	"cellaret/geom"
	"cellaret/rig"
	"cellaret/slots"
	"cellaret/store"
)

var (
	key   = strings.Repeat("k", 32)
	check = strings.Repeat("c", 32)
	zero  = strings.Repeat("\x00", 48)
)

func data(l ...int) string {
	s := ""
	for _, i := range l {
		s += strings.Repeat(string([]byte{byte(i), byte(i >> 8), 'd'}), 16)
	}
	return s
}

func ok(t *testing.T, l ...api.Errno) {
	t.Helper()
	for i, e := range l {
		if e != api.OK {
			t.Fatal(i, int(e))
		}
	}
}

// box is a cache, and all below it.
type box struct {
	*cache.Cache
	r *rig.Rig
	s *store.Store
	v *auth.Vault
}

func made(t *testing.T, blocks, slots, numbers int) *box {
	t.Helper()
	x := &box{r: rig.New()}
	var e api.Errno
	x.s, e = store.Format(x.r, nil, api.Geom{Blocks: blocks, Slots: slots, MaxIV: numbers}, check)
	ok(t, e)
	x.v, e = auth.New(x.s, key)
	ok(t, e)
	x.Cache, e = cache.New(x.v)
	ok(t, e)
	return x
}

// open opens what the rig has; false: it went down, or failed.
func (x *box) open() bool {
	var e api.Errno
	if x.s, _, e = store.Open(x.r, nil); e != api.OK {
		return false
	}
	if x.v, e = auth.New(x.s, key); e != api.OK {
		return false
	}
	x.Cache, e = cache.New(x.v)
	return e == api.OK
}

func (x *box) reads(t *testing.T, b int, want string) {
	t.Helper()
	if s, e := x.Read(b); s != want || e != api.OK {
		t.Fatalf("block %d: %.4q %d, not %.4q", b, s, int(e), want)
	}
}

func (x *box) leaf(t *testing.T, d, leaf int) string {
	t.Helper()
	b, _, e := x.s.Get(d, leaf)
	ok(t, e)
	return b
}

func (x *box) slot(t *testing.T, i int, want api.Slot) {
	t.Helper()
	if s, e := x.Slot(i); s != want || e != api.OK {
		t.Errorf("slot %d: %v %d", i, s, int(e))
	}
}

// kept tells the table as the fast device has it.
func (x *box) kept(t *testing.T) *slots.Table {
	t.Helper()
	data, e := x.v.Read(api.Fast, geom.Table)
	ok(t, e)
	y, e := slots.Read(x.s.Geom().Slots, data)
	ok(t, e)
	return y
}

var allValid = [4]bool{true, true, true, true}

func TestNewNil(t *testing.T) { // P27.1, P27.6
	if c, e := cache.New(nil); c != nil || e != api.ErrNil {
		t.Error(int(e))
	}
	var c *cache.Cache
	_, e1 := c.Read(-1)
	_, e2 := c.Slot(-1)
	for i, e := range []api.Errno{e1, e2, c.Write(-1, "x"), c.Discard(-1, 0), c.Tick(-1), c.Commit(), c.SetMode(9), c.Attach(), c.Detach(), c.Invalidate(-1, 0), c.Promote(-1)} {
		if e != api.ErrNil {
			t.Error(i, int(e))
		}
	}
	if c.Dirty() != 0 || c.Status() != (api.Status{}) {
		t.Error("looks")
	}
}

func TestNew(t *testing.T) { // P27.1
	x := made(t, 16, 2, 100)
	ok(t, x.Promote(3), x.Write(12, data(1)), x.SetMode(0), x.Promote(1))
	if !x.open() {
		t.Fatal("open")
	}
	x.slot(t, 0, api.Slot{Group: 3, Valid: allValid, Dirty: [4]bool{true}})
	x.slot(t, 1, api.Slot{Group: 1, Valid: allValid})
	if s := x.Status(); s != (api.Status{Blocks: 16, Slots: 2, Cached: 2, Dirty: 1, Attached: true, Left: 84, Epoch: 2}) {
		t.Error(s)
	}
	ok(t, x.Tick(0), x.SetMode(2))
	if !x.open() || x.Status().Mode != 2 {
		t.Error("mode")
	}
	// Its slots are in the policy: the first one goes first, whichever was brought in last.
	ok(t, x.SetMode(0), x.Promote(0))
	x.slot(t, 0, api.Slot{Group: 0, Valid: allValid})
	ok(t, x.Detach())
	if !x.open() || x.Status().Attached || x.Status().Slots != 2 {
		t.Error("not attached")
	}
	y := made(t, 16, 2, 100)
	ok(t, y.v.Plain(1, geom.Table, data(7)), y.Commit())
	if c, e := cache.New(y.v); c != nil || e != api.ErrTamper {
		t.Error(int(e))
	}
}

func TestRead(t *testing.T) { // P27.2
	x := made(t, 8, 2, 100)
	for b, want := range map[int]api.Errno{-1: api.ErrRange, 8: api.ErrRange, math.MaxInt: api.ErrRange, math.MinInt: api.ErrRange} {
		if s, e := x.Read(b); s != "" || e != want {
			t.Error(b, int(e))
		}
	}
	ok(t, x.Write(0, data(1, 2, 3, 4, 5)))
	for i := range 5 {
		x.reads(t, i, data(1+i))
	}
	x.reads(t, 5, zero)
	ok(t, x.Promote(0))
	ok(t, x.v.Write(1, 1, data(77))) // what the slot has is another one: it is read
	x.reads(t, 1, data(77))
	ok(t, x.v.Write(0, 1, data(88)))
	x.reads(t, 1, data(77))
	ok(t, x.SetMode(2))
	x.reads(t, 1, data(88))
	ok(t, x.SetMode(1))
	x.reads(t, 1, data(77))
	x.r.Fault(1)
	if s, e := x.Read(7); s != "" || e != api.ErrIO {
		t.Error(int(e))
	}
	if s, e := x.Read(7); s != "" || e != api.ErrFailed {
		t.Error(int(e))
	}
}

func TestWriteErrors(t *testing.T) { // P27.3
	x := made(t, 12, 2, 20)
	for i, c := range []struct {
		at   int
		data string
		e    api.Errno
	}{
		{-1, "x", api.ErrArg}, {0, "", api.ErrArg}, {-1, "", api.ErrArg}, {0, zero + "x", api.ErrArg}, {0, strings.Repeat(zero, 9), api.ErrArg}, {-1, zero, api.ErrRange}, {12, zero, api.ErrRange}, {5, strings.Repeat(zero, 8), api.ErrRange},
		{math.MaxInt, zero, api.ErrRange},
	} {
		if e := x.Write(c.at, c.data); e != c.e {
			t.Error(i, int(e))
		}
	}
	for i, c := range [][3]int{{-1, 0, 2}, {0, 9, 2}, {0, -1, 2}, {12, 1, 3}, {-1, 1, 3}, {5, 8, 3}, {math.MaxInt, 8, 3}} {
		if e := x.Discard(c[0], c[1]); int(e) != c[2] {
			t.Error(i, int(e))
		}
	}
	if x.v.Sealed() != 0 || x.s.Waiting(0) != 0 {
		t.Error("changed")
	}
	ok(t, x.Write(0, data(1, 2, 3, 4, 5, 6, 7, 8)), x.Write(0, data(1, 2, 3, 4, 5, 6, 7, 8)), x.Write(8, data(9)))
	if e := x.Write(0, data(11, 12, 13, 14)); e != api.ErrExhausted || x.v.Left() != 3 || x.v.Sealed() != 17 {
		t.Error(int(e), x.v.Left())
	}
	x.reads(t, 0, data(1))
	ok(t, x.Write(0, data(21, 22, 23)))
	if e := x.Write(3, zero); e != api.ErrExhausted {
		t.Error(int(e))
	}
	x.reads(t, 2, data(23))
	x.reads(t, 3, data(4))
	ok(t, x.Discard(0, 2), x.Promote(0), x.Tick(0), x.SetMode(1), x.Commit())
	x.reads(t, 1, zero)
	x.reads(t, 2, data(23))
}

func TestWriteModes(t *testing.T) { // P27.3
	x := made(t, 16, 2, 100)
	ok(t, x.Write(0, data(1, 2, 3, 4)), x.Promote(0))
	old := x.leaf(t, 0, 2)
	if x.leaf(t, 1, 2) != old || old == "" {
		t.Error("copied")
	}
	ok(t, x.Write(2, data(30, 31, 32))) // WriteBack: two blocks in the slot, one that has none
	if x.leaf(t, 0, 2) != old || x.leaf(t, 1, 2) == old || x.v.Sealed() != 7 || x.Dirty() != 1 {
		t.Error("WriteBack")
	}
	x.slot(t, 0, api.Slot{Group: 0, Valid: allValid, Dirty: [4]bool{2: true, 3: true}})
	if d, e := ctr.Unseal(nil, x.leaf(t, 0, 4)); e != api.ErrNil || d != "" {
		t.Error("not sealed")
	}
	for i, want := range []int{1, 2, 30, 31, 32} {
		x.reads(t, i, data(want))
	}
	if y := x.kept(t); y.Dirty() != 1 || x.s.Reg().Dirty != 0 {
		t.Error("the table was not kept")
	}
	ok(t, x.Commit())
	if x.s.Reg().Dirty != 1 {
		t.Error("register")
	}
	ok(t, x.Tick(0), x.SetMode(1), x.Write(1, data(40)))
	if x.leaf(t, 0, 1) != x.leaf(t, 1, 1) || x.Dirty() != 0 {
		t.Error("WriteThrough")
	}
	x.slot(t, 0, api.Slot{Group: 0, Valid: allValid})
	x.reads(t, 1, data(40))
	ok(t, x.SetMode(2), x.Write(5, data(50)))
	x.slot(t, 0, api.Slot{Group: 0, Valid: allValid})
	ok(t, x.Write(1, data(60, 61)))
	x.slot(t, 0, api.Slot{Group: -1})
	if x.kept(t).Len() != 0 {
		t.Error("PassThrough")
	}
	for i, want := range []int{1, 60, 61, 31, 32, 50} {
		x.reads(t, i, data(want))
	}
	ok(t, x.SetMode(0), x.Detach(), x.Write(0, data(70)), x.Discard(1, 1))
	x.reads(t, 0, data(70))
	x.reads(t, 1, zero)
}

func TestDiscard(t *testing.T) { // P27.3
	x := made(t, 16, 2, 100)
	ok(t, x.Write(0, data(1, 2, 3, 4, 5)), x.Promote(0), x.Write(0, data(11, 12)), x.Discard(1, 4))
	x.slot(t, 0, api.Slot{Group: 0, Valid: allValid, Dirty: [4]bool{true}})
	for i, want := range []string{data(11), zero, zero, zero, zero} {
		x.reads(t, i, want)
	}
	for _, i := range []int{1, 2, 3} {
		if x.leaf(t, 0, i) != "" || x.leaf(t, 1, i) != "" {
			t.Error(i)
		}
	}
	if x.leaf(t, 0, 4) != "" || x.leaf(t, 0, 0) == "" || x.kept(t).Dirty() != 1 {
		t.Error("Discard")
	}
	ok(t, x.Discard(0, 1))
	if x.Dirty() != 0 {
		t.Error("dirty")
	}
	ok(t, x.SetMode(2), x.Discard(3, 1))
	x.slot(t, 0, api.Slot{Group: -1})
	if x.kept(t).Len() != 0 {
		t.Error("PassThrough")
	}
	// A place that was not filled is valid when it is discarded, or written.
	y := made(t, 16, 2, 100)
	hot(y, 0)
	ok(t, y.Tick(0), y.Commit())
	if !y.Status().Moving || !y.open() || y.Status().Moving {
		t.Error("moving")
	}
	y.slot(t, 0, api.Slot{Group: 0, Valid: [4]bool{true, true}})
	ok(t, y.Discard(3, 1))
	y.slot(t, 0, api.Slot{Group: 0, Valid: [4]bool{true, true, false, true}})
	ok(t, y.Write(2, data(9)))
	y.slot(t, 0, api.Slot{Group: 0, Valid: allValid, Dirty: [4]bool{2: true}})
}

// hot lets a group be asked for till it may be brought in.
func hot(x *box, group int) {
	for range 4 {
		x.Read(4 * group)
	}
	for x.Status().Clock%8 != 0 || x.Status().Clock == 0 {
		x.Tick(-1)
	}
}

func TestMuch(t *testing.T) { // P27.3 .. P27.5
	full := func() *box {
		x := made(t, 64, 2, 200)
		ok(t, x.Write(0, data(1, 2, 3, 4, 5, 6, 7, 8)))
		if x.s.Waiting(0) != 18 {
			t.Fatal(x.s.Waiting(0))
		}
		ok(t, x.Write(8, data(11, 12, 13, 14, 15, 16)))
		if n := x.s.Waiting(0); n <= 24 || x.s.Reg().Used[0] != 1 { // at 18 nothing was committed
			t.Fatal(n)
		}
		return x
	}
	x := full()
	ok(t, x.Write(30, data(9)))
	if x.s.Waiting(0) != 7 || x.s.Reg().Used[0] == 1 {
		t.Error(x.s.Waiting(0))
	}
	x = full()
	ok(t, x.Discard(30, 1))
	if x.s.Waiting(0) != 7 {
		t.Error(x.s.Waiting(0))
	}
	x = full()
	x.Read(3)
	if x.s.Waiting(0) <= 24 {
		t.Error("Read commits")
	}
	x = full()
	used := x.s.Reg().Used[0]
	ok(t, x.Promote(5))
	if n := x.s.Reg().Used[0]; n == used || x.s.Waiting(0) != 0 || x.s.Waiting(1) != 0 {
		t.Error(n)
	}
	x = full()
	ok(t, x.Promote(0), x.Promote(1), x.Write(0, data(1, 2, 3, 4, 5, 6, 7, 8)), x.Write(8, data(9))) // now much waits on the fast device
	if n := x.s.Waiting(1); n <= 24-2 || x.s.Waiting(0) == 0 {
		t.Fatal(n)
	}
}

func TestJustMuch(t *testing.T) { // P27.3: 24 blocks are not much, 25 are
	x := made(t, 64, 3, 200)
	ok(t, x.Write(0, data(1, 2, 3, 4, 5, 6, 7, 8)), x.Write(8, data(9)), x.Write(10, data(10)))
	if x.s.Waiting(0) != 24 {
		t.Fatal(x.s.Waiting(0))
	}
	ok(t, x.Write(9, data(11)))
	if x.s.Waiting(0) != 25 || x.s.Reg().Used[0] != 1 {
		t.Fatal(x.s.Waiting(0))
	}
	ok(t, x.Write(9, data(12)))
	if x.s.Waiting(0) != 7 || x.s.Reg().Used[0] == 1 {
		t.Error(x.s.Waiting(0))
	}
	// The fast device's blocks count likewise.
	ok(t, x.Promote(0), x.Promote(1), x.Promote(2), x.Write(0, data(1, 2, 3, 4, 5, 6, 7, 8)))
	used := x.s.Reg().Used[1]
	if x.s.Waiting(1) != 24 || x.s.Waiting(0) != 0 {
		t.Fatal(x.s.Waiting(1))
	}
	ok(t, x.Write(8, data(13)))
	if x.s.Waiting(1) != 28 || x.s.Reg().Used[1] != used {
		t.Fatal(x.s.Waiting(1))
	}
	ok(t, x.Write(8, data(14)))
	if x.s.Waiting(1) != 13 || x.s.Reg().Used[1] == used {
		t.Error(x.s.Waiting(1))
	}
}

func TestTick(t *testing.T) { // P27.4
	x := made(t, 16, 2, 100)
	ok(t, x.Write(0, data(1, 2, 3, 4, 5, 6, 7, 8)))
	hot(x, 1)
	if x.Status().Cached != 0 || x.Status().Clock != 8 {
		t.Error(x.Status())
	}
	ok(t, x.Tick(-1))
	if x.Status().Cached != 0 || x.Status().Clock != 9 {
		t.Error(x.Status())
	}
	ok(t, x.Tick(5)) // groups 0 and 1 weigh 4 each
	x.slot(t, 0, api.Slot{Group: 1, Valid: [4]bool{true, true}})
	if s := x.Status(); !s.Moving || s.Cached != 1 || s.Clock != 10 || x.kept(t).Len() != 1 || x.s.Waiting(1) != 0 {
		t.Error(s)
	}
	x.reads(t, 4, data(5))
	x.reads(t, 7, data(8))
	ok(t, x.Tick(0))
	x.slot(t, 0, api.Slot{Group: 1, Valid: allValid})
	if s := x.Status(); s.Moving || x.leaf(t, 1, 3) != x.leaf(t, 0, 7) {
		t.Error(s)
	}
	// What is dirty is written back, slot by slot, ahead of what may be brought in.
	ok(t, x.Promote(0), x.Write(0, data(21)), x.Write(3, data(22, 23)))
	if x.Dirty() != 2 {
		t.Fatal(x.Dirty())
	}
	sealed := x.v.Sealed()
	ok(t, x.Tick(0))
	if x.Dirty() != 1 || x.s.Reg().Dirty != 1 || x.kept(t).Dirty() != 1 {
		t.Error(x.Dirty())
	}
	ok(t, x.Tick(0))
	if x.Dirty() != 0 || x.s.Reg().Dirty != 0 || x.v.Sealed() != sealed {
		t.Error(x.Dirty())
	}
	for b, want := range map[int]int{0: 21, 3: 22, 4: 23, 1: 2} {
		if d, e := x.v.Read(0, b); d != data(want) || e != api.OK {
			t.Error(b)
		}
	}
	if x.leaf(t, 0, 0) != x.leaf(t, 1, 4) {
		t.Error("not the very block")
	}
	x.slot(t, 1, api.Slot{Group: 0, Valid: allValid})
}

func TestTickWhich(t *testing.T) { // P27.4: the one that stands first in the policy
	x := made(t, 16, 2, 100)
	ok(t, x.Promote(2), x.Promote(3), x.Write(8, data(1)), x.Write(12, data(2)), x.Write(9, data(3)))
	ok(t, x.Tick(0)) // slot 0 was used last
	x.slot(t, 0, api.Slot{Group: 2, Valid: allValid, Dirty: [4]bool{true, true}})
	x.slot(t, 1, api.Slot{Group: 3, Valid: allValid})
}

func TestTickModes(t *testing.T) { // P27.4
	for mode := range 3 {
		x := made(t, 16, 2, 100)
		ok(t, x.SetMode(mode))
		hot(x, 2)
		ok(t, x.Tick(5))
		if n := x.Status().Cached; (n == 1) != (mode != 2) {
			t.Error(mode, n)
		}
	}
	x := made(t, 16, 2, 100)
	ok(t, x.Detach())
	hot(x, 2)
	ok(t, x.Tick(5), x.Write(0, data(1)), x.Tick(7))
	if s := x.Status(); s.Clock != 10 || x.s.Waiting(0) != 0 || s.Cached != 0 {
		t.Error(s)
	}
	if !x.open() || x.Status().Attached {
		t.Error("open")
	}
	x.reads(t, 0, data(1))
}

func TestBringInLetsGo(t *testing.T) { // P27.4, P27.5
	x := made(t, 16, 2, 100)
	ok(t, x.Promote(0), x.Promote(1))
	x.Read(0) // slot 0 is used: slot 1 goes first
	ok(t, x.Promote(2))
	x.slot(t, 1, api.Slot{Group: 2, Valid: allValid})
	ok(t, x.Write(8, data(1)), x.Promote(3)) // slot 1 is dirty: slot 0 goes
	x.slot(t, 0, api.Slot{Group: 3, Valid: allValid})
	ok(t, x.Write(12, data(2)))
	if e := x.Promote(0); e != api.ErrBusy {
		t.Error(int(e))
	}
	x.slot(t, 0, api.Slot{Group: 3, Valid: allValid, Dirty: [4]bool{true}})
	x.slot(t, 1, api.Slot{Group: 2, Valid: allValid, Dirty: [4]bool{true}})
	ok(t, x.Promote(2)) // it has a slot
	if x.s.Waiting(1) != 0 {
		t.Error("no commit at last")
	}
}

func TestQuiet(t *testing.T) { // P27.3, P27.5
	moving := func() *box {
		x := made(t, 16, 2, 100)
		ok(t, x.Write(0, data(1, 2, 3, 4)), x.Commit())
		hot(x, 0)
		ok(t, x.Tick(0))
		if !x.Status().Moving {
			t.Fatal("not moving")
		}
		return x
	}
	for i, f := range []func(x *box) api.Errno{
		func(x *box) api.Errno { return x.Write(0, data(9)) }, func(x *box) api.Errno { return x.Discard(3, 2) }, func(x *box) api.Errno { return x.SetMode(0) }, func(x *box) api.Errno { return x.Attach() },
		func(x *box) api.Errno { return x.Invalidate(2, 1) }, func(x *box) api.Errno { return x.Promote(0) },
	} {
		x := moving()
		ok(t, f(x))
		if s, _ := x.Slot(0); x.Status().Moving || s.Valid != allValid {
			t.Error(i)
		}
	}
	x := moving()
	ok(t, x.Write(4, data(9)), x.Discard(5, 1), x.Commit())
	if !x.Status().Moving {
		t.Error("another group's call ends the move")
	}
	x = moving()
	ok(t, x.Detach())
	if x.Status().Moving {
		t.Error("Detach")
	}
	x = moving()
	ok(t, x.Invalidate(0, 1))
	x.slot(t, 0, api.Slot{Group: -1})
	x = moving()
	used := x.s.Reg().Used[1]
	ok(t, x.Write(1, data(9))) // what was filled is committed, what is written is not
	if x.s.Reg().Used[1] == used || x.s.Reg().Dirty != 0 || x.s.Waiting(1) == 0 {
		t.Error("quiet")
	}
}

func TestRuns(t *testing.T) { // P27.3: a run goes over groups
	x := made(t, 16, 2, 100)
	hot(x, 1)
	ok(t, x.Tick(0))
	if !x.Status().Moving {
		t.Fatal("not moving")
	}
	ok(t, x.Write(3, data(1, 2)))
	if x.Status().Moving {
		t.Error("not quiet with the second block's group")
	}
	y := made(t, 16, 2, 100)
	for range 3 {
		ok(t, y.Write(3, data(1, 2)))
	}
	for range 8 {
		ok(t, y.Tick(-1))
	}
	ok(t, y.Tick(1)) // groups 0 and 1 weigh 1 each
	y.slot(t, 0, api.Slot{Group: 1, Valid: [4]bool{true, true}})
}

func TestPartly(t *testing.T) { // P27.4, P27.7: what is not valid in a slot is not written back
	x := made(t, 16, 2, 100)
	ok(t, x.Write(0, data(1, 2, 3, 4)))
	hot(x, 0)
	ok(t, x.Promote(1), x.Invalidate(1, 1), x.Tick(0), x.Commit())
	if !x.open() {
		t.Fatal("open")
	}
	x.slot(t, 0, api.Slot{Group: 0, Valid: [4]bool{true, true}})
	ok(t, x.Write(1, data(9)), x.Tick(0))
	x.slot(t, 0, api.Slot{Group: 0, Valid: [4]bool{true, true}})
	for b, want := range []int{1, 9, 3, 4} {
		x.reads(t, b, data(want))
		if s, e := x.v.Read(0, b); s != data(want) || e != api.OK {
			t.Error(b)
		}
	}
}

func TestBusy(t *testing.T) { // P27.5: whether it is busy is asked ahead of all else, but by Invalidate
	x := made(t, 16, 3, 100)
	ok(t, x.Promote(1))
	hot(x, 0)
	ok(t, x.Tick(0), x.Write(4, data(1)))
	if s := x.Status(); !s.Moving || s.Dirty != 1 {
		t.Fatal(s)
	}
	steps := x.r.Calls()
	if x.SetMode(1) != api.ErrBusy || x.SetMode(2) != api.ErrBusy || x.Detach() != api.ErrBusy || !x.Status().Moving || x.r.Calls() != steps {
		t.Error("busy, but something was done")
	}
	ok(t, x.Promote(2))
	if x.Invalidate(0, 4) != api.ErrBusy || x.Status().Cached != 3 || x.Status().Moving {
		t.Error(x.Status())
	}
	ok(t, x.Tick(0), x.Invalidate(0, 3))
	if x.Status().Cached != 0 || x.kept(t).Len() != 0 {
		t.Error(x.Status())
	}
	for i := range 3 {
		x.slot(t, i, api.Slot{Group: -1})
	}
	ok(t, x.Promote(2), x.Detach(), x.Tick(0), x.Detach())
	if x.Status().Clock != 1 {
		t.Error("what is detached is not detached again", x.Status().Clock)
	}
	ok(t, x.Attach(), x.Tick(0), x.Attach())
	if x.Status().Clock != 1 {
		t.Error("what is attached is not attached again", x.Status().Clock)
	}
}

func TestManagement(t *testing.T) { // P27.5
	x := made(t, 16, 2, 100)
	for i, c := range []struct{ got, want api.Errno }{
		{x.SetMode(-1), api.ErrArg}, {x.SetMode(3), api.ErrArg}, {x.SetMode(math.MaxInt), api.ErrArg}, {x.Promote(-1), api.ErrRange}, {x.Promote(4), api.ErrRange}, {x.Promote(math.MinInt), api.ErrRange},
		{x.Invalidate(-1, 1), api.ErrRange}, {x.Invalidate(0, 0), api.ErrRange}, {x.Invalidate(0, 5), api.ErrRange}, {x.Invalidate(4, 1), api.ErrRange}, {x.Invalidate(2, math.MaxInt), api.ErrRange}, {x.Invalidate(math.MaxInt, 2), api.ErrRange}, {x.Invalidate(0, -1), api.ErrRange},
	} {
		if c.got != c.want {
			t.Error(i, int(c.got))
		}
	}
	ok(t, x.Promote(1), x.Write(4, data(1)))
	if x.SetMode(1) != api.ErrBusy || x.SetMode(2) != api.ErrBusy || x.Detach() != api.ErrBusy || x.Invalidate(0, 4) != api.ErrBusy || x.Invalidate(1, 1) != api.ErrBusy || x.s.Waiting(1) == 0 {
		t.Error("busy")
	}
	ok(t, x.SetMode(0))
	if x.s.Waiting(1) != 0 || x.s.Reg().Dirty != 1 {
		t.Error("SetMode commits")
	}
	ok(t, x.Promote(2), x.Invalidate(2, 2), x.Invalidate(0, 1))
	x.slot(t, 0, api.Slot{Group: 1, Valid: allValid, Dirty: [4]bool{true}})
	x.slot(t, 1, api.Slot{Group: -1})
	if x.kept(t).Len() != 1 {
		t.Error("Invalidate")
	}
	ok(t, x.Tick(0), x.SetMode(1))
	if x.s.Reg().Mode != 1 || x.Status().Mode != 1 {
		t.Error("SetMode")
	}
	ok(t, x.SetMode(2), x.Promote(3), x.Write(8, data(2)))
	if x.Status().Cached != 1 {
		t.Error("Promote in PassThrough")
	}
	ok(t, x.Attach())
	if x.s.Waiting(0) != 0 || x.Status().Clock != 1 {
		t.Error("Attach")
	}
	ok(t, x.Detach())
	if s := x.Status(); s.Attached || s.Cached != 0 || s.Clock != 0 || s.Mode != 2 || x.s.Reg().Attached || s.Slots != 2 {
		t.Error(s)
	}
	if s, e := x.Slot(0); s != (api.Slot{}) || e == api.OK {
		t.Error(int(e))
	}
	ok(t, x.Detach(), x.SetMode(1), x.Promote(0), x.Invalidate(0, 4), x.Tick(0))
	if x.s.Reg().Mode != 1 || x.Status().Clock != 1 {
		t.Error("without a table")
	}
	ok(t, x.Write(0, data(5)), x.Attach())
	if s := x.Status(); !s.Attached || s.Cached != 0 || s.Clock != 0 || s.Mode != 1 || x.s.Waiting(0) != 0 {
		t.Error(s)
	}
	if b, there, _ := x.s.Get(1, geom.Table); !there || b[:9] != strings.Repeat("\x00", 8)+"\x02" {
		t.Error("the table is not kept")
	}
	x.reads(t, 0, data(5))
	x.reads(t, 4, data(1))
	x.reads(t, 8, data(2))
}

func TestLooks(t *testing.T) { // P27.6
	x := made(t, 32, 3, 50)
	if s := x.Status(); s != (api.Status{Blocks: 32, Slots: 3, Attached: true, Left: 50, Epoch: 1}) {
		t.Error(s)
	}
	ok(t, x.Promote(1), x.Promote(7), x.Write(5, data(1)))
	if s := x.Status(); s != (api.Status{Blocks: 32, Slots: 3, Cached: 2, Dirty: 1, Attached: true, Left: 49, Epoch: 1}) || x.Dirty() != 1 {
		t.Error(s)
	}
	for _, i := range []int{-1, 3, 8, math.MaxInt} {
		if s, e := x.Slot(i); s != (api.Slot{}) || e != api.ErrRange {
			t.Error(i)
		}
	}
}

// play is a cache, and the blocks as they should be: now, and all that may be behind a crash.
type play struct {
	*box
	now string
	may []string
}

func (p *play) change(at int, d string, e api.Errno) api.Errno {
	p.may = append(p.may, p.now[:48*at]+d+p.now[48*at+len(d):])
	if e == api.OK {
		p.now = p.may[len(p.may)-1]
	}
	return e
}

func (p *play) safe(e api.Errno) api.Errno {
	if e == api.OK {
		p.may = []string{p.now}
	}
	if e == api.ErrBusy {
		return api.OK
	}
	return e
}

func (p *play) step(rnd *rand.Rand, i int) api.Errno {
	blocks := p.s.Geom().Blocks
	at := rnd.Intn(blocks)
	n := 1 + rnd.Intn(min(8, blocks-at))
	group := at / 4
	switch k := rnd.Intn(24); {
	case k < 7:
		d := ""
		for j := range n {
			d += data(i*8 + j)
		}
		return p.change(at, d, p.Write(at, d))
	case k < 9:
		return p.change(at, strings.Repeat(zero, n), p.Discard(at, n))
	case k < 13:
		s, e := p.Read(at)
		if e == api.OK && s != p.now[48*at:48*at+48] {
			return api.ErrForm
		}
		return e
	case k < 18:
		return p.safe(p.Tick(rnd.Int()))
	case k == 18:
		return p.safe(p.SetMode(rnd.Intn(3)))
	case k == 19:
		return p.safe(p.Promote(group))
	case k == 20:
		return p.safe(p.Invalidate(group, 1))
	case k == 21 && i%3 == 0:
		return p.safe(p.Detach())
	case k == 22:
		return p.safe(p.Attach())
	}
	return p.safe(p.Commit())
}

func (p *play) all(t *testing.T) string {
	t.Helper()
	s := ""
	for b := range p.s.Geom().Blocks {
		d, e := p.Read(b)
		ok(t, e)
		s += d
	}
	return s
}

func played(t *testing.T, rnd *rand.Rand) *play {
	blocks := 4 * (1 + rnd.Intn(16))
	p := &play{box: made(t, blocks, 1+rnd.Intn(8), 1<<20), now: strings.Repeat(zero, blocks)}
	p.may = []string{p.now}
	return p
}

func TestFlat(t *testing.T) { // P27.7
	for seed := range 60 {
		rnd := rand.New(rand.NewSource(int64(seed)))
		p := played(t, rnd)
		most := 0
		for i := range 250 {
			before := p.r.Calls()
			if e := p.step(rnd, i); e != api.OK {
				t.Fatal(seed, i, int(e))
			}
			most = max(most, p.r.Calls()-before)
			if w := max(p.s.Waiting(0), p.s.Waiting(1)); w > 60 {
				t.Fatal(seed, i, w)
			}
		}
		if most > 120*(api.Height+api.Group) {
			t.Error("steps of a call", most)
		}
		if p.all(t) != p.now {
			t.Fatal(seed, "not flat")
		}
		ok(t, p.Commit())
		if !p.open() || p.all(t) != p.now {
			t.Fatal(seed, "not flat, when it is opened")
		}
	}
}

func TestDrains(t *testing.T) { // P27.8
	for seed := range 60 {
		rnd := rand.New(rand.NewSource(int64(seed)))
		p := played(t, rnd)
		for i := range 60 + rnd.Intn(60) {
			ok(t, p.step(rnd, i))
		}
		p.SetMode(0)
		p.Attach()
		for g := range p.s.Geom().Blocks / 4 {
			p.Promote(g)
			p.Write(4*g+rnd.Intn(4), data(7))
			if rnd.Intn(3) == 0 {
				p.Tick(rnd.Int())
			}
		}
		for range p.Dirty() + 2 {
			ok(t, p.Tick(rnd.Int()))
		}
		ok(t, p.SetMode(rnd.Intn(3)), p.Detach())
	}
}

func loss(rnd *rand.Rand) api.Loss {
	x := api.Loss{Torn: rnd.Intn(300) - 5, Bytes: rnd.Intn(70) - 3}
	for range rnd.Intn(66) {
		x.Keep = append(x.Keep, rnd.Intn(2) == 0)
	}
	return x
}

func TestKept(t *testing.T) { // P27.9
	for seed := range 80 {
		rnd := rand.New(rand.NewSource(int64(seed)))
		p := played(t, rnd)
		for range 4 {
			if rnd.Intn(4) == 0 {
				p.r.Fault(1 + rnd.Intn(700))
			} else {
				p.r.Arm(1 + rnd.Intn(700))
			}
			e := api.OK
			for i := 0; e == api.OK; i++ {
				e = p.step(rnd, i)
			}
			if e != api.ErrDown && e != api.ErrIO {
				t.Fatal(seed, int(e))
			}
			p.r.Crash(loss(rnd), loss(rnd))
			for tries := 0; ; tries++ {
				if tries < 2 {
					p.r.Arm(1 + rnd.Intn(250))
				}
				if p.open() {
					break
				}
				p.r.Crash(loss(rnd), loss(rnd))
			}
			p.r.Crash(api.Loss{}, api.Loss{})
			if !p.open() {
				t.Fatal(seed, "open")
			}
			got, found := p.all(t), false
			for _, m := range p.may {
				found = found || m == got
			}
			if !found {
				t.Fatal(seed, "no beginning of the changes")
			}
			p.now, p.may = got, []string{got}
		}
	}
}
