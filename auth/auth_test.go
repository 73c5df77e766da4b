package auth_test

import (
	"math/rand"
	"strings"
	"testing"

	"cellaret/aes"
	"cellaret/api"
	"cellaret/auth"
	"cellaret/ctr"
	"cellaret/reg"
	"cellaret/rig"
	"cellaret/store"
)

var (
	key   = strings.Repeat("k", 32)
	check = strings.Repeat("c", 32)
)

func data(i int) string { return strings.Repeat(string([]byte{byte(i), byte(i >> 8), 'd'}), 16) }

func ok(t *testing.T, l ...api.Errno) {
	t.Helper()
	for i, e := range l {
		if e != api.OK {
			t.Fatal(i, int(e))
		}
	}
}

func vault(t *testing.T, numbers int) (*rig.Rig, *auth.Vault) {
	t.Helper()
	r := rig.New()
	s, e := store.Format(r, nil, api.Geom{Blocks: 16, Slots: 2, MaxIV: numbers}, check)
	ok(t, e)
	v, e := auth.New(s, key)
	ok(t, e)
	return r, v
}

func reopened(t *testing.T, r *rig.Rig) *auth.Vault {
	t.Helper()
	s, _, e := store.Open(r, nil)
	ok(t, e)
	v, e := auth.New(s, key)
	ok(t, e)
	return v
}

func reads(t *testing.T, v *auth.Vault, d, leaf int, want string) {
	t.Helper()
	if s, e := v.Read(d, leaf); s != want || e != api.OK {
		t.Errorf("device %d, leaf %d: %q %d", d, leaf, s, int(e))
	}
}

func TestNew(t *testing.T) { // P21.1
	if v, e := auth.New(nil, ""); v != nil || e != api.ErrNil {
		t.Error(int(e))
	}
	r, v := vault(t, 20)
	for _, n := range []int{0, 31, 33} {
		if v, e := auth.New(v.Store(), strings.Repeat("k", n)); v != nil || e != api.ErrArg {
			t.Error(n)
		}
	}
	if v.Left() != 20 || v.Sealed() != 0 || r.Calls() != 260 {
		t.Error(v.Left())
	}
	ok(t, v.Store().Raise(21)) // more than there are
	if v, e := auth.New(v.Store(), key); v != nil || e != api.ErrArg {
		t.Error(int(e))
	}
}

func TestSeal(t *testing.T) { // P21.2
	var none *auth.Vault
	if s, e := none.Seal(""); s != "" || e != api.ErrNil {
		t.Error(int(e))
	}
	r, v := vault(t, 20)
	k, _ := aes.New(key)
	for _, n := range []int{0, 47, 49} {
		if s, e := v.Seal(strings.Repeat("x", n)); s != "" || e != api.ErrForm {
			t.Error(n)
		}
	}
	steps := r.Calls()
	for i := range 20 {
		s, e := v.Seal(data(i))
		want, _ := ctr.Seal(k, i, data(i))
		if s != want || e != api.OK || v.Left() != 19-i || v.Sealed() != i+1 {
			t.Error(i, int(e))
		}
		if i == 0 || i == 16 {
			steps++
		}
		if top := min(20, i/16*16+16); r.Calls() != steps || v.Store().Reg().IV != top {
			t.Error(i, r.Calls(), steps, v.Store().Reg().IV)
		}
	}
	if s, e := v.Seal(data(0)); s != "" || e != api.ErrExhausted || v.Sealed() != 20 || v.Left() != 0 {
		t.Error(int(e))
	}
	if s, e := v.Seal("x"); s != "" || e != api.ErrForm {
		t.Error(int(e))
	}
	if r.Calls() != steps {
		t.Error("steps")
	}
	for i, c := range []struct {
		break_      func(r *rig.Rig)
		told, later api.Errno
	}{{func(r *rig.Rig) { r.Fault(1) }, api.ErrIO, api.ErrFailed}, {func(r *rig.Rig) { r.Arm(1) }, api.ErrDown, api.ErrDown}} {
		r, v := vault(t, 20)
		c.break_(r)
		if s, e := v.Seal(data(1)); s != "" || e != c.told || v.Left() != 20 || v.Sealed() != 0 {
			t.Error(i, int(e))
		}
		if s, e := v.Seal(data(1)); s != "" || e != c.later {
			t.Error(i, int(e))
		}
		if s, e := v.Seal(""); s != "" || e != api.ErrForm {
			t.Error(i, int(e))
		}
	}
	r, v = vault(t, 1)
	v.Seal(data(0))
	r.Fault(1)
	v.Read(0, 0)
	if _, e := v.Seal(data(0)); e != api.ErrFailed { // ahead of ErrExhausted
		t.Error(int(e))
	}
}

func TestSet(t *testing.T) { // P21.2
	var none *auth.Vault
	if none.Set(9, 9, "") != api.ErrNil {
		t.Error("nil")
	}
	_, v := vault(t, 20)
	block, _ := v.Seal(data(1))
	for i, c := range []struct {
		d, leaf int
		block   string
		e       api.Errno
	}{{9, 99, "", api.ErrForm}, {0, 0, strings.Repeat("\x00", 64), api.ErrForm}, {0, 0, block[:8] + "\x03" + block[9:], api.ErrForm}, {9, 99, block, api.ErrArg}, {0, 64, block, api.ErrRange}, {1, 7, block, api.OK}} {
		if e := v.Set(c.d, c.leaf, c.block); e != c.e {
			t.Error(i, int(e))
		}
	}
	if b, there, e := v.Store().Get(1, 7); b != block || !there || e != api.OK {
		t.Error("Set")
	}
	reads(t, v, 1, 7, data(1))
}

func TestReadWrite(t *testing.T) { // P21.3
	var none *auth.Vault
	s, e := none.Read(9, 99)
	if s != "" || e != api.ErrNil || none.Write(9, 99, "") != api.ErrNil || none.Plain(9, 99, "") != api.ErrNil || none.Clear(9, 99) != api.ErrNil || none.Copy(9, 99, 9, 99) != api.ErrNil {
		t.Error("nil")
	}
	_, v := vault(t, 20)
	reads(t, v, 0, 3, strings.Repeat("\x00", 48))
	ok(t, v.Write(0, 3, data(1)), v.Plain(1, 3, data(2)))
	reads(t, v, 0, 3, data(1))
	reads(t, v, 1, 3, data(2))
	want, _ := ctr.Lay(0, data(2))
	if b, _, _ := v.Store().Get(1, 3); b != want || v.Sealed() != 1 {
		t.Errorf("%q", b)
	}
	ok(t, v.Clear(0, 3))
	reads(t, v, 0, 3, strings.Repeat("\x00", 48))
	if _, there, _ := v.Store().Get(0, 3); there {
		t.Error("Clear")
	}
	read := func(d, leaf int) api.Errno { _, e := v.Read(d, leaf); return e }
	for i, c := range []struct{ got, want api.Errno }{
		{read(2, 99), api.ErrArg}, {read(0, 64), api.ErrRange}, {v.Write(2, 99, "x"), api.ErrForm}, {v.Write(2, 99, data(1)), api.ErrArg}, {v.Write(0, 64, data(1)), api.ErrRange},
		{v.Plain(2, 99, "x"), api.ErrForm}, {v.Plain(2, 99, data(1)), api.ErrArg}, {v.Plain(0, -1, data(1)), api.ErrRange}, {v.Clear(2, 99), api.ErrArg}, {v.Clear(0, 64), api.ErrRange},
		{v.Copy(2, 0, 9, 9), api.ErrArg}, {v.Copy(0, 64, 9, 9), api.ErrRange}, {v.Copy(1, 3, 2, 0), api.ErrArg}, {v.Copy(1, 3, 0, 64), api.ErrRange}, {v.Copy(0, 9, 2, 0), api.ErrArg}, {v.Copy(0, 9, 0, 64), api.ErrRange},
	} {
		if c.got != c.want {
			t.Error(i, int(c.got))
		}
	}
	ok(t, v.Store().Put(0, 5, strings.Repeat("x", 64)))
	if s, e := v.Read(0, 5); s != "" || e != api.ErrTamper {
		t.Error(int(e))
	}
}

func TestCopy(t *testing.T) { // P21.3
	_, v := vault(t, 20)
	ok(t, v.Write(0, 3, data(1)), v.Copy(0, 3, 1, 8))
	a, _, _ := v.Store().Get(0, 3)
	b, there, _ := v.Store().Get(1, 8)
	if a != b || !there || v.Sealed() != 1 {
		t.Error("Copy")
	}
	reads(t, v, 1, 8, data(1))
	ok(t, v.Copy(0, 4, 1, 8))
	if _, there, _ := v.Store().Get(1, 8); there {
		t.Error("Copy of no block")
	}
	ok(t, v.Store().Put(0, 5, strings.Repeat("x", 64)), v.Copy(0, 5, 0, 6)) // the very block, whatever it is
	if b, _, _ := v.Store().Get(0, 6); b != strings.Repeat("x", 64) {
		t.Error(b)
	}
}

func TestLooks(t *testing.T) { // P21.4
	var none *auth.Vault
	if none.Store() != nil || none.Left() != 0 || none.Sealed() != 0 {
		t.Error("nil")
	}
	r := rig.New()
	s, _ := store.Format(r, nil, api.Geom{Blocks: 4, Slots: 1, MaxIV: 9}, check)
	if v, _ := auth.New(s, key); v.Store() != s || v.Left() != 9 {
		t.Error("looks")
	}
}

func TestBack(t *testing.T) { // P21.5
	r, v := vault(t, 40)
	ok(t, v.Write(0, 1, data(1)), v.Plain(1, 2, data(2)), v.Copy(0, 1, 1, 9), v.Store().Commit(), v.Write(0, 1, data(7)))
	r.Crash(api.Loss{Torn: -1}, api.Loss{Torn: -1})
	v = reopened(t, r)
	reads(t, v, 0, 1, data(1))
	reads(t, v, 1, 2, data(2))
	reads(t, v, 1, 9, data(1))
	if v.Left() != 40-16 || v.Sealed() != 0 {
		t.Error(v.Left())
	}
}

func TestOnce(t *testing.T) { // P21.6
	for seed := range 30 {
		rnd := rand.New(rand.NewSource(int64(seed)))
		r, v := vault(t, 300)
		seen := map[int]string{}
		for v != nil {
			if rnd.Intn(3) == 0 {
				r.Arm(1 + rnd.Intn(60))
			} else if rnd.Intn(3) == 0 {
				r.Fault(1 + rnd.Intn(20))
			}
			for i := range rnd.Intn(30) {
				block, e := v.Seal(data(i))
				if e == api.ErrExhausted {
					v = nil
					break
				}
				if e != api.OK {
					break
				}
				n, _, _ := ctr.Kind(block)
				if _, there := seen[n]; there || n < 0 || n >= 300 {
					t.Fatal(seed, n)
				}
				seen[n] = block
				if v.Store().Waiting(0) < 50 {
					v.Set(0, rnd.Intn(16), block)
				}
				if rnd.Intn(9) == 0 {
					v.Store().Commit()
				}
			}
			r.Crash(api.Loss{Torn: rnd.Intn(288)}, api.Loss{Torn: -1})
			text, _ := r.Reg()
			x, _ := reg.Get(text)
			for n := range seen {
				if n >= x.IV {
					t.Fatal(seed, "the register's number is not above", n)
				}
			}
			if v != nil {
				v = reopened(t, r)
			}
		}
		if len(seen) < 50 {
			t.Error(seed, len(seen))
		}
	}
}
