package reg_test

import (
	"math"
	"strings"
	"testing"

	"cellaret/api"
	"cellaret/reg"
)

func digest(c byte) api.Digest {
	var d api.Digest
	for i := range d {
		d[i] = c
	}
	return d
}

func some() api.Reg {
	return api.Reg{Anchors: [2]api.Digest{digest('a'), digest('b')}, Epoch: 258, IV: 1<<33 + 5, Area: [2]int{1, 0}, Used: [2]int{7, 80}, Dirty: 3, Attached: true}
}

func alone() api.Reg {
	return api.Reg{Anchors: [2]api.Digest{digest('a'), {}}, Epoch: 1, Mode: 2, Used: [2]int{1, 0}}
}

func with(x api.Reg, change func(*api.Reg)) api.Reg {
	change(&x)
	return x
}

func TestCheckPut(t *testing.T) { // P11.1
	good := []api.Reg{some(), alone(), {}, {Epoch: 1<<32 - 1, IV: 1 << 40, Area: [2]int{1, 1}, Used: [2]int{80, 80}, Dirty: 8, Attached: true},
		with(some(), func(x *api.Reg) { x.Mode, x.Dirty = 1, 0 }), with(some(), func(x *api.Reg) { x.Mode, x.Dirty = 2, 0 }), with(alone(), func(x *api.Reg) { x.Area[0] = 1 })}
	for i, x := range good {
		if e := reg.Check(x); e != api.OK {
			t.Error(i, int(e))
		}
		s, e := reg.Put(x)
		if e != api.OK || len(s) != 96 {
			t.Error(i, int(e))
		}
		if y, e := reg.Get(s); y != x || e != api.OK { // P11.3
			t.Error(i, y, int(e))
		}
	}
	bad := []func(*api.Reg){
		func(x *api.Reg) { x.Epoch = -1 }, func(x *api.Reg) { x.Epoch = 1 << 32 }, func(x *api.Reg) { x.IV = -1 }, func(x *api.Reg) { x.IV = 1<<40 + 1 }, func(x *api.Reg) { x.IV = math.MinInt },
		func(x *api.Reg) { x.Area[0] = 2 }, func(x *api.Reg) { x.Area[0] = -1 }, func(x *api.Reg) { x.Area[1] = 2 }, func(x *api.Reg) { x.Area[1] = -1 },
		func(x *api.Reg) { x.Used[0] = -1 }, func(x *api.Reg) { x.Used[0] = 81 }, func(x *api.Reg) { x.Used[1] = -1 }, func(x *api.Reg) { x.Used[1] = 81 },
		func(x *api.Reg) { x.Dirty = -1 }, func(x *api.Reg) { x.Dirty = 9 }, func(x *api.Reg) { x.Mode = -1 }, func(x *api.Reg) { x.Mode, x.Dirty = 3, 0 }, func(x *api.Reg) { x.Mode = 1 }, func(x *api.Reg) { x.Mode = 2 },
		func(x *api.Reg) { x.Attached = false },
		func(x *api.Reg) { *x = with(alone(), func(y *api.Reg) { y.Mode, y.Dirty = 0, 1 }) }, func(x *api.Reg) { *x = with(alone(), func(y *api.Reg) { y.Area[1] = 1 }) },
		func(x *api.Reg) { *x = with(alone(), func(y *api.Reg) { y.Used[1] = 1 }) }, func(x *api.Reg) { *x = with(alone(), func(y *api.Reg) { y.Anchors[1][31] = 1 }) },
	}
	for i, c := range bad {
		x := with(some(), c)
		s, e := reg.Put(x)
		if reg.Check(x) != api.ErrArg || s != "" || e != api.ErrArg {
			t.Error(i, int(e))
		}
	}
}

func TestBytes(t *testing.T) { // P11.1
	s, _ := reg.Put(some())
	want := strings.Repeat("a", 32) + strings.Repeat("b", 32) + "\x00\x00\x01\x02" + "\x00\x00\x00\x02\x00\x00\x00\x05" + "\x01\x07\x00\x50\x03\x00\x01\x67" + strings.Repeat("\x00", 12)
	if s != want {
		t.Errorf("%q", s)
	}
	s, _ = reg.Put(alone())
	want = strings.Repeat("a", 32) + strings.Repeat("\x00", 32) + "\x00\x00\x00\x01" + strings.Repeat("\x00", 8) + "\x00\x01\x00\x00\x00\x02\x00\x67" + strings.Repeat("\x00", 12)
	if s != want {
		t.Errorf("%q", s)
	}
}

func TestGet(t *testing.T) { // P11.2
	s, _ := reg.Put(some())
	for _, x := range []string{"", s[:95], s + "\x00", strings.Repeat("\x00", 95)} {
		if y, e := reg.Get(x); y != (api.Reg{}) || e != api.ErrForm {
			t.Error(len(x), int(e))
		}
	}
	if y, e := reg.Get(strings.Repeat("\x00", 96)); y != (api.Reg{}) || e != api.ErrFormat {
		t.Error(int(e))
	}
	set := func(i int, c byte) string { return s[:i] + string([]byte{c}) + s[i+1:] }
	bad := []string{set(68, 0x80), set(70, 1), set(76, 2), set(77, 81), set(78, 2), set(79, 81), set(80, 9), set(81, 3), set(81, 1), set(82, 0), set(82, 2), set(82, 0xff), set(83, 0), set(83, 0x66)}
	for i := 84; i < 96; i++ {
		bad = append(bad, set(i, 1))
	}
	for i, x := range bad {
		if y, e := reg.Get(x); y != (api.Reg{}) || e != api.ErrForm {
			t.Error(i, int(e))
		}
	}
}

func TestBack(t *testing.T) { // P11.3
	for i := range 96 {
		s, _ := reg.Put(some())
		for _, c := range []byte{0, 1, 2, 77, 0x67, 255} {
			x := s[:i] + string([]byte{c}) + s[i+1:]
			y, e := reg.Get(x)
			if e != api.OK {
				continue
			}
			if z, e := reg.Put(y); z != x || e != api.OK {
				t.Error(i, c)
			}
		}
	}
}
