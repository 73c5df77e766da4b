package meta_test

import (
	"strings"
	"testing"

	"cellaret/api"
	"cellaret/auth"
	"cellaret/ctr"
	"cellaret/geom"
	"cellaret/meta"
	"cellaret/rig"
	"cellaret/slots"
	"cellaret/store"
)

var (
	key   = strings.Repeat("k", 32)
	check = strings.Repeat("c", 32)
)

func ok(t *testing.T, l ...api.Errno) {
	t.Helper()
	for i, e := range l {
		if e != api.OK {
			t.Fatal(i, int(e))
		}
	}
}

func vault(t *testing.T) (*rig.Rig, *auth.Vault) {
	t.Helper()
	r := rig.New()
	s, e := store.Format(r, nil, api.Geom{Blocks: 16, Slots: 2, MaxIV: 50}, check)
	ok(t, e)
	v, e := auth.New(s, key)
	ok(t, e)
	return r, v
}

func table(t *testing.T, n int, groups ...int) *slots.Table {
	t.Helper()
	x, e := slots.New(n)
	ok(t, e)
	for _, g := range groups {
		_, e := x.Take(g)
		ok(t, e)
	}
	return x
}

func TestLoad(t *testing.T) { // P23.1
	if x, e := meta.Load(nil); x != nil || e != api.ErrNil {
		t.Error(int(e))
	}
	r, v := vault(t)
	x, e := meta.Load(v)
	if e != api.OK || x.Len() != 0 || x.Bytes() != table(t, 2).Bytes() {
		t.Fatal(int(e))
	}
	if i, e := x.Take(1); i != 0 || e != api.OK {
		t.Error(int(e))
	}
	// What is no table, or another one than the register says.
	tampered := func() {
		t.Helper()
		if x, e := meta.Load(v); x != nil || e != api.ErrTamper {
			t.Error(int(e))
		}
	}
	ok(t, v.Plain(1, geom.Table, strings.Repeat("x", 48)))
	tampered()
	ok(t, v.Plain(1, geom.Table, table(t, 3, 1, 2, 3).Bytes()))
	tampered()
	y := table(t, 2, 1)
	y.Mark(0, 0, true, true)
	ok(t, v.Plain(1, geom.Table, y.Bytes()))
	tampered()
	ok(t, v.Store().Say(1, 0))
	tampered()
	ok(t, v.Store().Commit())
	if x, e := meta.Load(v); e != api.OK || x.Bytes() != y.Bytes() {
		t.Error(int(e))
	}
	ok(t, v.Store().Put(1, geom.Table, strings.Repeat("x", 64)))
	tampered()
	ok(t, v.Plain(1, geom.Table, table(t, 2).Bytes()))
	tampered()
	ok(t, v.Store().Say(0, 0), v.Store().Detach())
	r.Fault(1)
	if x, e := meta.Load(v); x != nil || e != api.ErrState {
		t.Error(int(e))
	}
	r, v = vault(t)
	r.Fault(2)
	if x, e := meta.Load(v); x != nil || e != api.ErrIO {
		t.Error(int(e))
	}
	if x, e := meta.Load(v); x != nil || e != api.ErrFailed {
		t.Error(int(e))
	}
}

func TestSave(t *testing.T) { // P23.2
	r, v := vault(t)
	if meta.Save(nil, table(t, 2), 9) != api.ErrNil || meta.Save(v, nil, 9) != api.ErrNil {
		t.Error("nil")
	}
	x := table(t, 2, 5)
	ok(t, x.Mark(0, 1, true, true))
	steps := r.Calls()
	for i, c := range []struct {
		t    *slots.Table
		mode int
	}{{table(t, 3, 0, 1, 2), 0}, {x, 3}, {x, -1}, {x, 1}, {x, 2}} {
		if e := meta.Save(v, c.t, c.mode); e != api.ErrArg {
			t.Error(i, int(e))
		}
	}
	if r.Calls() != steps || v.Store().Waiting(1) != 0 {
		t.Error("changed")
	}
	ok(t, meta.Save(v, x, 0))
	want, _ := ctr.Lay(0, x.Bytes())
	if b, _, e := v.Store().Get(1, geom.Table); b != want || e != api.OK || v.Store().Waiting(1) != 7 || v.Store().Reg().Dirty != 0 {
		t.Error("Save")
	}
	ok(t, v.Store().Commit())
	if v.Store().Reg().Dirty != 1 || v.Store().Reg().Mode != 0 {
		t.Error(v.Store().Reg())
	}
	ok(t, x.Mark(0, 1, true, false), meta.Save(v, x, 2), v.Store().Commit())
	if v.Store().Reg().Dirty != 0 || v.Store().Reg().Mode != 2 {
		t.Error(v.Store().Reg())
	}
	for leaf := 0; v.Store().Waiting(1) <= 57; leaf += 3 {
		ok(t, v.Plain(1, leaf, strings.Repeat("x", 48)))
	}
	if e := meta.Save(v, x, 1); e != api.ErrFull {
		t.Error(int(e))
	}
	ok(t, v.Store().Commit())
	if v.Store().Reg().Mode != 2 {
		t.Error("said with an error")
	}
	r.Fault(1)
	if _, _, e := v.Store().Get(0, 0); e != api.ErrIO {
		t.Error(int(e))
	}
	if meta.Save(v, x, 2) != api.ErrFailed || meta.Save(v, x, 9) != api.ErrArg {
		t.Error("failed")
	}
	_, v = vault(t)
	ok(t, v.Store().Detach())
	if meta.Save(v, x, 9) != api.ErrState {
		t.Error("not attached")
	}
}

func TestBack(t *testing.T) { // P23.3
	r, v := vault(t)
	x := table(t, 2, 3, 9)
	ok(t, x.Mark(1, 2, true, true), x.Mark(0, 0, true, false), meta.Save(v, x, 0), v.Store().Commit())
	y := x.Copy()
	ok(t, y.Mark(0, 1, true, true), meta.Save(v, y, 0))
	r.Crash(api.Loss{Torn: -1}, api.Loss{Torn: -1})
	s, _, e := store.Open(r, nil)
	ok(t, e)
	v, e = auth.New(s, key)
	ok(t, e)
	if z, e := meta.Load(v); e != api.OK || z.Bytes() != x.Bytes() {
		t.Error(int(e))
	}
}
