package slots_test

import (
	"math"
	"math/rand"
	"strings"
	"testing"

	"cellaret/api"
	"cellaret/slots"
)

var empty = strings.Repeat("\x00", 48)

func table(t *testing.T, n int) *slots.Table {
	t.Helper()
	x, e := slots.New(n)
	if e != api.OK || x == nil {
		t.Fatal(int(e))
	}
	return x
}

func ok(t *testing.T, l ...api.Errno) {
	t.Helper()
	for i, e := range l {
		if e != api.OK {
			t.Fatal(i, int(e))
		}
	}
}

func at(t *testing.T, x *slots.Table, i int) api.Slot {
	t.Helper()
	s, e := x.At(i)
	ok(t, e)
	return s
}

func TestNew(t *testing.T) { // P22.1
	for _, n := range []int{0, 9, -1, math.MinInt, math.MaxInt} {
		if x, e := slots.New(n); x != nil || e != api.ErrArg {
			t.Error(n)
		}
		if x, e := slots.Read(n, ""); x != nil || e != api.ErrArg {
			t.Error(n)
		}
	}
	for n := 1; n <= 8; n++ {
		x := table(t, n)
		for i := range n {
			if at(t, x, i) != (api.Slot{Group: -1}) {
				t.Error(i)
			}
		}
		if x.Bytes() != empty || x.Len() != 0 || x.Dirty() != 0 {
			t.Error(n)
		}
	}
}

func TestRead(t *testing.T) { // P22.1
	set := func(l ...byte) string { return string(l) + empty[len(l):] }
	for i, c := range []struct {
		n  int
		s  string
		ok bool
	}{
		{2, "", false}, {2, empty[1:], false}, {2, empty + "\x00", false}, {1, empty, true}, {2, set(6, 34), true}, {2, set(16, 0xff, 3), true}, {2, set(17), false}, {2, set(0xff), false},
		{2, set(6, 0x22, 4), false}, {2, set(6, 0x02), false}, {2, set(6, 0x12), false}, {2, set(6, 0x22, 0, 1), false}, {2, set(0, 0x10), false}, {2, set(0, 0, 1), false}, {2, set(0, 0, 0, 1), false},
		{2, set(6, 0, 0, 0, 6), false}, {2, set(6, 0, 0, 0, 7), true}, {1, set(6, 0, 0, 0, 7), false}, {8, set(6, 0, 0, 0, 0, 0, 0, 0, 5), true}, {2, set(6, 0, 0, 0, 0, 0, 0, 0, 5), false}, {2, set(0, 0, 0, 0, 0, 0, 0, 0, 0, 0, 1), false},
		{8, empty[:32] + "\x01" + empty[:15], false}, {8, empty[:47] + "\x01", false},
	} {
		x, e := slots.Read(c.n, c.s)
		if !c.ok {
			if x != nil || e != api.ErrForm {
				t.Error(i, int(e))
			}
			continue
		}
		if e != api.OK || x.Bytes() != c.s {
			t.Error(i, int(e))
		}
	}
	x, _ := slots.Read(2, set(6, 34, 3))
	if s := at(t, x, 0); s != (api.Slot{Group: 5, Valid: [4]bool{1: true}, Dirty: [4]bool{1: true}, Level: 3}) {
		t.Error(s)
	}
}

func TestFindTakeFree(t *testing.T) { // P22.2
	var none *slots.Table
	n, e := none.Take(99)
	if n != 0 || e != api.ErrNil || none.Free(99) != api.ErrNil {
		t.Error("nil")
	}
	x := table(t, 2)
	for _, g := range []int{-1, 16, math.MinInt, math.MaxInt} {
		if i, e := x.Take(g); i != 0 || e != api.ErrRange {
			t.Error(g)
		}
		if i, there := x.Find(g); i != 0 || there {
			t.Error(g)
		}
	}
	if i, e := x.Take(5); i != 0 || e != api.OK {
		t.Error(i)
	}
	if i, e := x.Take(0); i != 1 || e != api.OK {
		t.Error(i)
	}
	if i, e := x.Take(5); i != 0 || e != api.ErrExist {
		t.Error(i)
	}
	if i, e := x.Take(7); i != 0 || e != api.ErrFull {
		t.Error(i)
	}
	if i, there := x.Find(0); i != 1 || !there {
		t.Error(i)
	}
	if i, there := x.Find(7); i != 0 || there {
		t.Error(i)
	}
	for _, i := range []int{-1, 2, 8, math.MaxInt} {
		if x.Free(i) != api.ErrRange {
			t.Error(i)
		}
	}
	ok(t, x.Mark(0, 3, true, false), x.Raise(0, 2), x.Free(0))
	if x.Free(0) != api.ErrNone || at(t, x, 0) != (api.Slot{Group: -1}) || x.Len() != 1 {
		t.Error("Free")
	}
	ok(t, x.Mark(1, 2, true, true))
	if x.Free(1) != api.ErrBusy || x.Len() != 1 {
		t.Error("busy")
	}
	if i, e := x.Take(7); i != 0 || e != api.OK || at(t, x, 0) != (api.Slot{Group: 7}) {
		t.Error(i)
	}
}

func TestMarkRaiseAt(t *testing.T) { // P22.3
	var none *slots.Table
	_, e := none.At(99)
	if e != api.ErrNil || none.Mark(99, 99, false, true) != api.ErrNil || none.Raise(99, 99) != api.ErrNil {
		t.Error("nil")
	}
	x := table(t, 2)
	x.Take(4)
	for i, c := range []struct{ got, want api.Errno }{
		{x.Mark(2, 0, true, true), api.ErrRange}, {x.Mark(-1, 0, true, true), api.ErrRange}, {x.Mark(0, 4, true, true), api.ErrRange}, {x.Mark(0, -1, true, true), api.ErrRange}, {x.Mark(1, 4, true, true), api.ErrRange},
		{x.Mark(1, 0, false, true), api.ErrNone}, {x.Mark(0, 0, false, true), api.ErrArg}, {x.Mark(0, 0, true, true), api.OK}, {x.Mark(0, 3, true, false), api.OK},
		{x.Raise(2, 0), api.ErrRange}, {x.Raise(0, 4), api.ErrRange}, {x.Raise(0, -1), api.ErrRange}, {x.Raise(1, 4), api.ErrRange}, {x.Raise(1, 3), api.ErrNone}, {x.Raise(0, 3), api.OK},
	} {
		if c.got != c.want {
			t.Error(i, int(c.got))
		}
	}
	if s := at(t, x, 0); s != (api.Slot{Group: 4, Valid: [4]bool{true, false, false, true}, Dirty: [4]bool{true}, Level: 3}) {
		t.Error(s)
	}
	ok(t, x.Mark(0, 0, false, false))
	if s := at(t, x, 0); s != (api.Slot{Group: 4, Valid: [4]bool{3: true}, Level: 3}) {
		t.Error(s)
	}
	for _, i := range []int{-1, 2, math.MaxInt, math.MinInt} {
		if s, e := x.At(i); s != (api.Slot{}) || e != api.ErrRange {
			t.Error(i)
		}
	}
}

func TestLooks(t *testing.T) { // P22.4
	var none *slots.Table
	i, there := none.Find(0)
	if none.Bytes() != "" || none.Dirty() != 0 || none.Len() != 0 || none.Copy() != nil || i != 0 || there {
		t.Error("nil")
	}
	x := table(t, 3)
	x.Take(5)
	x.Mark(0, 1, true, true)
	if x.Bytes() != "\x06\x22\x00\x00"+empty[4:] {
		t.Errorf("%q", x.Bytes())
	}
	x.Take(15)
	x.Take(0)
	ok(t, x.Mark(1, 0, true, false), x.Mark(1, 3, true, true), x.Mark(1, 2, true, true), x.Raise(1, 2))
	if x.Bytes() != "\x06\x22\x00\x00\x10\xdc\x02\x00\x01\x00\x00\x00"+empty[12:] || x.Dirty() != 2 || x.Len() != 3 {
		t.Errorf("%q", x.Bytes())
	}
	c := x.Copy()
	c.Mark(0, 1, false, false)
	c.Free(2)
	if x.Dirty() != 2 || x.Len() != 3 || c.Dirty() != 1 || c.Len() != 2 {
		t.Error("copies are one")
	}
}

func TestOneBack(t *testing.T) { // P22.5, P22.6
	for seed := range 20 {
		rnd := rand.New(rand.NewSource(int64(seed)))
		n := 1 + rnd.Intn(8)
		x := table(t, n)
		for range 200 {
			switch rnd.Intn(4) {
			case 0:
				x.Take(rnd.Intn(18) - 1)
			case 1:
				x.Free(rnd.Intn(n))
			case 2:
				x.Mark(rnd.Intn(n), rnd.Intn(4), rnd.Intn(2) == 0, rnd.Intn(2) == 0)
			case 3:
				x.Raise(rnd.Intn(n), rnd.Intn(4))
			}
			seen := map[int]bool{}
			for i := range n {
				s := at(t, x, i)
				if s.Group >= 0 && seen[s.Group] {
					t.Fatal("two slots have", s.Group)
				}
				seen[s.Group] = true
				for k := range 4 {
					if s.Dirty[k] && !s.Valid[k] {
						t.Fatal(s)
					}
				}
			}
			y, e := slots.Read(n, x.Bytes())
			if e != api.OK || y.Bytes() != x.Bytes() || y.Dirty() != x.Dirty() || y.Len() != x.Len() {
				t.Fatal(int(e))
			}
			for i := range n {
				if at(t, x, i) != at(t, y, i) {
					t.Fatal(i)
				}
			}
		}
	}
}
