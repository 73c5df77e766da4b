package vol_test

import (
	"math"
	"math/rand"
	"strings"
	"testing"

	"cellaret/aes"
	"cellaret/api"
	"cellaret/chain"
	"cellaret/ctr"
	"cellaret/geom"
	"cellaret/oracle"
	"cellaret/reg"
	"cellaret/rig"
	"cellaret/vol"
)

var (
	key   = strings.Repeat("k", 32)
	other = strings.Repeat("o", 32)
	zero  = strings.Repeat("\x00", 48)
	small = api.Geom{Blocks: 16, Slots: 2, MaxIV: 1000}
)

func data(l ...int) string {
	s := ""
	for _, i := range l {
		s += strings.Repeat(string([]byte{byte(i), byte(i >> 8), 'd'}), 16)
	}
	return s
}

func ok(t *testing.T, l ...api.Errno) {
	t.Helper()
	for i, e := range l {
		if e != api.OK {
			t.Fatal(i, int(e))
		}
	}
}

func volume(t *testing.T, g api.Geom) (*rig.Rig, *vol.Vol) {
	t.Helper()
	r := rig.New()
	v, e := vol.New(r, nil)
	ok(t, e, v.Format(g, key))
	return r, v
}

func reads(t *testing.T, v *vol.Vol, at int, want string) {
	t.Helper()
	if s, e := v.Read(at, len(want)/48); s != want || e != api.OK {
		t.Fatalf("block %d: %.4q %d", at, s, int(e))
	}
}

func status(t *testing.T, v *vol.Vol) api.Status {
	t.Helper()
	s, e := v.Status()
	ok(t, e)
	return s
}

// calls are all of a volume's that need it to be open, but Close.
func calls(v *vol.Vol) []api.Errno {
	_, e1 := v.Read(-1, 0)
	_, e2 := v.Status()
	return []api.Errno{e1, e2, v.Write(-1, "x"), v.FUA(-1, "x"), v.Flush(), v.Discard(-1, 0), v.SetMode(9), v.Attach(), v.Detach(), v.Invalidate(-1, 0), v.Promote(-1), v.Demote(-1), v.Tick(-1)}
}

func all(t *testing.T, v *vol.Vol, want api.Errno) {
	t.Helper()
	for i, e := range calls(v) {
		if e != want {
			t.Errorf("call %d: %d, not %d", i, int(e), int(want))
		}
	}
}

func TestNewFormat(t *testing.T) { // P28.1
	if v, e := vol.New(nil, nil); v != nil || e != api.ErrNil {
		t.Error(int(e))
	}
	var none *vol.Vol
	if none.Format(api.Geom{}, "") != api.ErrNil || none.IsOpen() {
		t.Error("nil")
	}
	r := rig.New()
	o := oracle.New()
	v, e := vol.New(r, o)
	ok(t, e)
	if v.IsOpen() || r.Calls() != 0 || o.Len() != 0 {
		t.Error("New")
	}
	for i, c := range []struct {
		g   api.Geom
		key string
	}{{api.Geom{}, key}, {small, ""}, {small, key + "x"}, {small, key[1:]}, {api.Geom{Blocks: 5, Slots: 1, MaxIV: 1}, key}} {
		if e := v.Format(c.g, c.key); e != api.ErrArg || v.IsOpen() || r.Calls() != 0 {
			t.Error(i, int(e))
		}
	}
	r.Fault(9)
	if e := v.Format(small, key); e != api.ErrIO || v.IsOpen() {
		t.Error(int(e))
	}
	ok(t, v.Format(small, key))
	if !v.IsOpen() || v.Format(api.Geom{}, "") != api.ErrState || o.Len() == 0 {
		t.Error("open")
	}
	block, _ := r.Dev(0).Read(0)
	want, _ := chain.Check(nil, key)
	if g, check, e := geom.Read(block); g != small || check != want || e != api.OK {
		t.Error(g)
	}
	if s := status(t, v); s != (api.Status{Blocks: 16, Slots: 2, Attached: true, Left: 1000, Epoch: 1}) {
		t.Error(s)
	}
	reads(t, v, 8, strings.Repeat(zero, 8))
}

func TestOpen(t *testing.T) { // P28.2
	var none *vol.Vol
	if none.Open("") != api.ErrNil || none.Rebuild("") != api.ErrNil {
		t.Error("nil")
	}
	r, v := volume(t, small)
	if v.Open("") != api.ErrState || v.Rebuild("") != api.ErrState {
		t.Error("open")
	}
	ok(t, v.FUA(3, data(1)), v.Close())
	for _, f := range []func(string) api.Errno{v.Open, v.Rebuild} {
		steps := r.Calls()
		if f("") != api.ErrArg || f(key+"x") != api.ErrArg || r.Calls() != steps || v.IsOpen() {
			t.Error("arguments")
		}
		if f(other) != api.ErrKey || v.IsOpen() {
			t.Error("key")
		}
		ok(t, f(key))
		if !v.IsOpen() {
			t.Error("not open")
		}
		reads(t, v, 3, data(1))
		ok(t, v.Close())
	}
	if e := status2(v); e != api.ErrState {
		t.Error(int(e))
	}
	w, _ := vol.New(rig.New(), nil)
	if w.Open(key) != api.ErrFormat || w.Rebuild(key) != api.ErrFormat || w.IsOpen() {
		t.Error("nothing there")
	}
	r.Tamper(0, 0, strings.Repeat("x", 64))
	if v.Open(key) != api.ErrTamper || v.Rebuild(other) != api.ErrTamper || v.IsOpen() {
		t.Error("tampered")
	}
}

func status2(v *vol.Vol) api.Errno {
	_, e := v.Status()
	return e
}

func TestRebuild(t *testing.T) { // P28.2, W7
	r, v := volume(t, small)
	ok(t, v.Promote(0), v.FUA(0, data(1, 2)), v.Close())
	before := r.Dev(0).Image() + r.Dev(1).Image()
	if v.Rebuild(key) != api.ErrDirtyLost || v.IsOpen() || r.Dev(0).Image()+r.Dev(1).Image() != before {
		t.Error("dirty")
	}
	ok(t, v.Open(key), v.Tick(0), v.Write(7, data(3)), v.Close())
	for i := range 288 {
		r.Tamper(1, i, strings.Repeat("?", 64))
	}
	if v.Open(key) != api.ErrTamper {
		t.Error("tampered")
	}
	ok(t, v.Rebuild(key))
	reads(t, v, 0, data(1, 2))
	reads(t, v, 7, data(3))
	if s := status(t, v); !s.Attached || s.Cached != 0 {
		t.Error(s)
	}
	ok(t, v.Promote(0), v.Write(0, data(5)), v.Close(), v.Open(key))
	reads(t, v, 0, data(5, 2))
}

func TestClose(t *testing.T) { // P28.3
	var none *vol.Vol
	if none.Close() != api.ErrNil {
		t.Error("nil")
	}
	r, v := volume(t, small)
	ok(t, v.Write(0, data(1)), v.Close())
	if v.IsOpen() || v.Close() != api.ErrState {
		t.Error("closed")
	}
	all(t, v, api.ErrState)
	r.Crash(api.Loss{}, api.Loss{}) // Close made it safe
	ok(t, v.Open(key))
	reads(t, v, 0, data(1))
	ok(t, v.Write(0, data(2)))
	r.Fault(1)
	if v.Close() != api.ErrIO || v.IsOpen() || v.Close() != api.ErrState {
		t.Error("Close fails")
	}
	ok(t, v.Open(key))
	reads(t, v, 0, data(1))
	for _, c := range []struct {
		break_      func()
		told, close api.Errno
	}{
		{func() { r.Fault(1) }, api.ErrIO, api.OK},
		{func() { r.Tamper(0, 224+9, strings.Repeat("x", 64)) }, api.ErrTamper, api.OK},
		{func() { r.Arm(1) }, api.ErrDown, api.ErrDown},
	} {
		c.break_()
		if s, e := v.Read(9, 1); s != "" || e != c.told || !v.IsOpen() {
			t.Error(int(e))
		}
		later := c.told
		if later == api.ErrIO {
			later = api.ErrFailed
		}
		steps := r.Calls()
		all(t, v, later)
		if v.Open(key) == api.OK || v.Format(small, key) == api.OK || r.Calls() != steps {
			t.Error("failed")
		}
		if e := v.Close(); e != c.close || v.IsOpen() || r.Calls() != steps {
			t.Error(int(e))
		}
		r.Tamper(0, 224+9, strings.Repeat("\x00", 64))
		if c.told == api.ErrDown {
			if v.Open(key) != api.ErrDown {
				t.Error("down")
			}
			r.Crash(api.Loss{}, api.Loss{})
		}
		ok(t, v.Open(key))
		reads(t, v, 0, data(1))
	}
}

func TestReadWrite(t *testing.T) { // P28.4
	var none *vol.Vol
	all(t, none, api.ErrNil)
	r, v := volume(t, small)
	read := func(at, n int) api.Errno { _, e := v.Read(at, n); return e }
	for i, c := range []struct{ got, want api.Errno }{
		{read(0, 0), api.ErrArg}, {read(-1, 9), api.ErrArg}, {read(-1, 1), api.ErrRange}, {read(9, 8), api.ErrRange}, {read(16, 1), api.ErrRange}, {read(math.MaxInt, 2), api.ErrRange}, {read(0, math.MinInt), api.ErrArg},
		{v.Write(0, ""), api.ErrArg}, {v.Write(-1, "x"), api.ErrArg}, {v.Write(16, zero), api.ErrRange}, {v.FUA(0, "x"), api.ErrArg}, {v.FUA(-1, zero), api.ErrRange}, {v.Discard(0, 9), api.ErrArg}, {v.Discard(9, 8), api.ErrRange},
	} {
		if c.got != c.want {
			t.Error(i, int(c.got))
		}
	}
	ok(t, v.Write(2, data(1, 2, 3)))
	steps := r.Calls()
	reads(t, v, 1, zero+data(1, 2, 3)+zero)
	if r.Calls() == steps {
		t.Error("no steps")
	}
	ok(t, v.Discard(3, 1))
	reads(t, v, 2, data(1)+zero+data(3))
	c := r.Copy()
	c.Crash(api.Loss{}, api.Loss{})
	w, _ := vol.New(c, nil)
	ok(t, w.Open(key))
	reads(t, w, 2, zero)
	ok(t, v.FUA(2, data(9)))
	r.Crash(api.Loss{}, api.Loss{})
	w, _ = vol.New(r, nil)
	ok(t, w.Open(key), w.Write(0, data(7)), w.Flush())
	reads(t, w, 2, data(9)+zero+data(3))
	r.Crash(api.Loss{}, api.Loss{})
	w, _ = vol.New(r, nil)
	ok(t, w.Open(key))
	reads(t, w, 0, data(7))
}

func TestManagement(t *testing.T) { // P28.5
	_, v := volume(t, small)
	for i, c := range []struct{ got, want api.Errno }{
		{v.SetMode(3), api.ErrArg}, {v.Promote(4), api.ErrRange}, {v.Demote(4), api.ErrRange}, {v.Demote(-1), api.ErrRange}, {v.Invalidate(0, 0), api.ErrRange},
		{v.Promote(1), 0}, {v.Promote(2), 0}, {v.Write(4, data(1)), 0}, {v.Demote(1), api.ErrBusy}, {v.Invalidate(0, 2), api.ErrBusy}, {v.Detach(), api.ErrBusy}, {v.SetMode(1), api.ErrBusy}, {v.Demote(2), 0},
	} {
		if c.got != c.want {
			t.Error(i, int(c.got))
		}
	}
	if s := status(t, v); s != (api.Status{Blocks: 16, Slots: 2, Cached: 1, Dirty: 1, Attached: true, Left: 999, Epoch: 1}) {
		t.Error(s)
	}
	ok(t, v.Tick(0), v.SetMode(2), v.Detach(), v.Detach(), v.Tick(1))
	if s := status(t, v); s != (api.Status{Blocks: 16, Slots: 2, Mode: 2, Left: 999, Epoch: 1, Clock: 1}) {
		t.Error(s)
	}
	ok(t, v.Attach(), v.SetMode(0), v.Invalidate(0, 4))
	if s := status(t, v); s != (api.Status{Blocks: 16, Slots: 2, Attached: true, Left: 999, Epoch: 1}) {
		t.Error(s)
	}
}

// play is a volume, and the blocks as they should be: now, and all that may be behind a crash.
type play struct {
	*vol.Vol
	r   *rig.Rig
	g   api.Geom
	now string
	may []string
}

func played(t *testing.T, rnd *rand.Rand, numbers int) *play {
	t.Helper()
	p := &play{g: api.Geom{Blocks: 4 * (1 + rnd.Intn(16)), Slots: 1 + rnd.Intn(8), MaxIV: numbers}}
	p.r, p.Vol = volume(t, p.g)
	p.now = strings.Repeat(zero, p.g.Blocks)
	p.may = []string{p.now}
	return p
}

func (p *play) change(at int, d string, e api.Errno) api.Errno {
	if e == api.ErrExhausted {
		return api.OK
	}
	p.may = append(p.may, p.now[:48*at]+d+p.now[48*at+len(d):])
	if e == api.OK {
		p.now = p.may[len(p.may)-1]
	}
	return e
}

func (p *play) safe(e api.Errno) api.Errno {
	if e == api.OK {
		p.may = []string{p.now}
	}
	return e
}

func busy(e api.Errno) api.Errno {
	if e == api.ErrBusy {
		return api.OK
	}
	return e
}

func (p *play) step(rnd *rand.Rand, i int) api.Errno {
	at := rnd.Intn(p.g.Blocks)
	n := 1 + rnd.Intn(min(8, p.g.Blocks-at))
	d := ""
	for j := range n {
		d += data(i*8 + j)
	}
	switch k := rnd.Intn(26); {
	case k < 6:
		return p.change(at, d, p.Write(at, d))
	case k == 6:
		e := p.FUA(at, d)
		exhausted := e == api.ErrExhausted
		if e = p.change(at, d, e); exhausted {
			return e
		}
		return p.safe(e)
	case k < 9:
		return p.change(at, strings.Repeat(zero, n), p.Discard(at, n))
	case k < 13:
		s, e := p.Read(at, n)
		if e == api.OK && s != p.now[48*at:48*(at+n)] {
			return api.ErrForm
		}
		return e
	case k < 18:
		return p.safe(p.Tick(rnd.Int()))
	case k == 18:
		return busy(p.safe(p.SetMode(rnd.Intn(3))))
	case k == 19:
		return busy(p.safe(p.Promote(at / 4)))
	case k == 20:
		return busy(p.safe(p.Demote(at / 4)))
	case k == 21 && i%3 == 0:
		return busy(p.safe(p.Detach()))
	case k == 22:
		return p.safe(p.Attach())
	case k == 23:
		if e := p.safe(p.Close()); e != api.OK {
			return e
		}
		return p.Open(key)
	}
	return p.safe(p.Flush())
}

func whole(t *testing.T, v *vol.Vol, blocks int) string {
	t.Helper()
	s := ""
	for b := 0; b < blocks; b += 4 {
		d, e := v.Read(b, 4)
		ok(t, e)
		s += d
	}
	return s
}

func TestFlat(t *testing.T) { // P28.6, W1
	for seed := range 40 {
		rnd := rand.New(rand.NewSource(int64(seed)))
		p := played(t, rnd, 1<<20)
		for i := range 200 {
			if e := p.step(rnd, i); e != api.OK {
				t.Fatal(seed, i, int(e))
			}
		}
		if whole(t, p.Vol, p.g.Blocks) != p.now {
			t.Fatal(seed)
		}
	}
}

func loss(rnd *rand.Rand) api.Loss {
	x := api.Loss{Torn: rnd.Intn(300) - 5, Bytes: rnd.Intn(70) - 3}
	for range rnd.Intn(66) {
		x.Keep = append(x.Keep, rnd.Intn(2) == 0)
	}
	return x
}

func TestCrashes(t *testing.T) { // P28.7, W2
	for seed := range 80 {
		rnd := rand.New(rand.NewSource(int64(seed)))
		p := played(t, rnd, 1<<20)
		for range 4 {
			fault := rnd.Intn(3) == 0
			if fault {
				p.r.Fault(1 + rnd.Intn(700))
			} else {
				p.r.Arm(1 + rnd.Intn(700))
			}
			e := api.OK
			for i := 0; e == api.OK; i++ {
				e = p.step(rnd, i)
			}
			if e != api.ErrDown && e != api.ErrIO {
				t.Fatal(seed, int(e))
			}
			if e == api.ErrIO && rnd.Intn(2) == 0 { // no crash: closed, if it is open, and opened again
				if p.IsOpen() {
					ok(t, p.Close())
				}
			} else {
				p.r.Crash(loss(rnd), loss(rnd))
				p.Vol, _ = vol.New(p.r, nil)
				for range rnd.Intn(3) {
					p.r.Arm(1 + rnd.Intn(250))
					if p.Open(key) == api.OK {
						ok(t, p.Close())
					}
					p.r.Crash(loss(rnd), loss(rnd))
				}
			}
			ok(t, p.Open(key))
			p.r.Crash(api.Loss{}, api.Loss{}) // what is opened is safe
			p.Vol, _ = vol.New(p.r, nil)
			ok(t, p.Open(key))
			got, found := whole(t, p.Vol, p.g.Blocks), false
			for _, m := range p.may {
				found = found || m == got
			}
			if !found {
				t.Fatal(seed, "no beginning of the changes")
			}
			p.now, p.may = got, []string{got}
		}
	}
}

// sealed tells the sealed blocks that both devices have, journals and all.
func sealed(r *rig.Rig) map[int]string {
	m := map[int]string{}
	for d := range 2 {
		image := r.Dev(d).Image()
		for i := range geom.Size {
			b := image[64*i : 64*i+64]
			if n, kind, e := ctr.Kind(b); e == api.OK && kind == ctr.Sealed {
				m[n] = b
			}
		}
	}
	return m
}

func TestOnce(t *testing.T) { // P28.8, W4
	for seed := range 20 {
		rnd := rand.New(rand.NewSource(int64(seed)))
		p := played(t, rnd, 150)
		seen := map[int]string{}
		look := func() {
			for n, b := range sealed(p.r) {
				if was, there := seen[n]; there && was != b || n < 0 || n >= 150 {
					t.Fatal(seed, "number", n)
				}
				seen[n] = b
			}
		}
		for i := range 150 {
			if i%30 == 29 {
				p.r.Arm(1 + rnd.Intn(100))
			}
			e := p.step(rnd, i)
			look()
			if e == api.ErrDown {
				p.r.Crash(loss(rnd), loss(rnd))
				p.Vol, _ = vol.New(p.r, nil)
				ok(t, p.Open(key))
				p.now = whole(t, p.Vol, p.g.Blocks)
				look()
			} else if e != api.OK {
				t.Fatal(seed, i, int(e))
			}
		}
		p.r.Crash(loss(rnd), loss(rnd))
		p.Vol, _ = vol.New(p.r, nil)
		ok(t, p.Open(key))
		was := whole(t, p.Vol, p.g.Blocks)
		for status(t, p.Vol).Left > 0 {
			ok(t, p.Write(0, data(5)))
		}
		if p.Write(0, data(6)) != api.ErrExhausted || p.FUA(1, data(6)) != api.ErrExhausted || whole(t, p.Vol, p.g.Blocks)[48:] != was[48:] {
			t.Error(seed, "exhausted")
		}
		ok(t, p.Discard(1, 1), p.Promote(0), p.Tick(3), p.Flush())
		reads(t, p.Vol, 1, zero)
		look()
	}
}

func TestTold(t *testing.T) { // P28.9, W5
	k1, _ := aes.New(key)
	k2, _ := aes.New(other)
	for seed := range 12 {
		rnd := rand.New(rand.NewSource(int64(seed)))
		g := api.Geom{Blocks: 4 * (1 + rnd.Intn(8)), Slots: 1 + rnd.Intn(4), MaxIV: 1 << 20}
		r, v := volume(t, g)
		q := rig.New()
		w, _ := vol.New(q, nil)
		ok(t, w.Format(g, other))
		for i := range 120 {
			at := rnd.Intn(g.Blocks)
			n := 1 + rnd.Intn(min(8, g.Blocks-at))
			both := func(f func(v *vol.Vol) api.Errno) {
				t.Helper()
				if a, b := f(v), f(w); a != b {
					t.Fatal(seed, i, int(a), int(b))
				}
			}
			switch k := rnd.Intn(12); {
			case k < 5: // other data, whose sealed blocks are the same
				number := g.MaxIV - status(t, v).Left
				a, b := "", ""
				for j := range n {
					d := data(i*8 + j)
					x, _ := ctr.Crypt(k1, number+j, d)
					y, _ := ctr.Crypt(k2, number+j, x)
					a, b = a+d, b+y
				}
				ok(t, v.Write(at, a), w.Write(at, b))
			case k == 5:
				both(func(v *vol.Vol) api.Errno { return v.Discard(at, n) })
			case k == 6:
				both(func(v *vol.Vol) api.Errno { return v.Promote(at / 4) })
			case k == 7:
				mode := rnd.Intn(3)
				both(func(v *vol.Vol) api.Errno { return v.SetMode(mode) })
			case k == 8 && i%4 == 0:
				x, y := loss(rnd), loss(rnd)
				r.Crash(x, y)
				q.Crash(x, y)
				v, _ = vol.New(r, nil)
				w, _ = vol.New(q, nil)
				ok(t, v.Open(key), w.Open(other))
			case k == 9:
				a, e1 := v.Read(at, n)
				b, e2 := w.Read(at, n)
				ok(t, e1, e2)
				if a == b && a != strings.Repeat(zero, n) {
					t.Fatal("the same data")
				}
			default:
				draw := rnd.Int()
				both(func(v *vol.Vol) api.Errno { return v.Tick(draw) })
			}
			slow := func(r *rig.Rig) string {
				s := r.Dev(0).Image()
				return s[:32] + s[64:]
			}
			if slow(r) != slow(q) || r.Dev(1).Image() != q.Dev(1).Image() || r.Calls() != q.Calls() {
				t.Fatal(seed, i, "the devices tell more")
			}
		}
		x, _ := r.Reg()
		y, _ := q.Reg()
		a, _ := reg.Get(x)
		b, _ := reg.Get(y)
		a.Anchors, b.Anchors = [2]api.Digest{}, [2]api.Digest{}
		if a != b {
			t.Error(a, b)
		}
	}
}
