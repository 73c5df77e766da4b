package rig_test

import (
	"math"
	"strings"
	"testing"

	"cellaret/api"
	"cellaret/rig"
)

func full(c string) string { return strings.Repeat(c, 64) }

func register(c string) string { return strings.Repeat(c, 96) }

func has(t *testing.T, r *rig.Rig, d, i int, want string) {
	t.Helper()
	if s, e := r.Dev(d).Read(i); s != want || e != api.OK {
		t.Errorf("device %d, block %d: %q", d, i, s)
	}
}

func TestErrors(t *testing.T) { // P12.1, P12.2
	var none *rig.Rig
	_, e1 := none.Read(9, 9)
	_, e2 := none.Reg()
	for i, e := range []api.Errno{e1, e2, none.Write(9, 9, ""), none.Flush(9), none.SetReg(""), none.Tamper(9, 9, ""), none.Later(0, 9, 9, ""), none.Arm(0), none.Fault(0), none.Crash(api.Loss{}, api.Loss{})} {
		if e != api.ErrNil {
			t.Error(i, int(e))
		}
	}
	r := rig.New()
	r.Arm(1)
	read := func(d, i int) api.Errno { _, e := r.Read(d, i); return e }
	for i, c := range []struct{ got, want api.Errno }{
		{read(2, -1), api.ErrArg}, {read(-1, 0), api.ErrArg}, {read(0, 288), api.ErrRange}, {read(1, -1), api.ErrRange}, {read(1, math.MaxInt), api.ErrRange},
		{r.Write(2, 999, ""), api.ErrArg}, {r.Write(0, 288, ""), api.ErrRange}, {r.Write(1, 0, "x"), api.ErrForm}, {r.Write(1, 0, full("x")+"x"), api.ErrForm},
		{r.Flush(2), api.ErrArg}, {r.Flush(-1), api.ErrArg}, {r.SetReg(""), api.ErrForm}, {r.SetReg(register("x") + "x"), api.ErrForm},
		{r.Tamper(2, 999, ""), api.ErrArg}, {r.Tamper(0, 288, ""), api.ErrRange}, {r.Tamper(0, 0, "x"), api.ErrForm},
		{r.Later(0, 0, 0, full("x")), api.ErrArg}, {r.Later(1<<40+1, 0, 999, ""), api.ErrArg}, {r.Later(1, 2, 999, ""), api.ErrArg}, {r.Later(1, 0, 288, ""), api.ErrRange}, {r.Later(1, 0, 0, ""), api.ErrForm},
		{r.Arm(0), api.ErrArg}, {r.Arm(-1), api.ErrArg}, {r.Arm(1<<40 + 1), api.ErrArg}, {r.Fault(0), api.ErrArg}, {r.Fault(math.MinInt), api.ErrArg}, {r.Fault(1<<40 + 1), api.ErrArg},
	} {
		if c.got != c.want {
			t.Error(i, int(c.got))
		}
	}
	if r.Calls() != 0 || r.Down() {
		t.Error("a call that may not be is a step")
	}
	if e := read(0, 0); e != api.ErrDown || r.Calls() != 1 { // what was refused changed nothing
		t.Error(int(e))
	}
}

func TestCalls(t *testing.T) { // P12.1
	r := rig.New()
	if s, e := r.Reg(); s != register("\x00") || e != api.OK {
		t.Error(s)
	}
	if s, e := r.Read(0, 287); s != full("\x00") || e != api.OK {
		t.Error(s)
	}
	if r.Write(1, 5, full("a")) != api.OK || r.Write(0, 5, full("b")) != api.OK || r.Flush(1) != api.OK || r.SetReg(register("r")) != api.OK || r.Calls() != 6 {
		t.Error(r.Calls())
	}
	if s, e := r.Reg(); s != register("r") || e != api.OK {
		t.Error(s)
	}
	if s, e := r.Read(1, 5); s != full("a") || e != api.OK {
		t.Error(s)
	}
	has(t, r, 0, 5, full("b"))
	if len(r.Dev(0).Unsafe()) != 1 || len(r.Dev(1).Unsafe()) != 0 {
		t.Error("Flush")
	}
}

func TestArmFault(t *testing.T) { // P12.1, P12.2
	r := rig.New()
	if r.Arm(2) != api.OK {
		t.Error("Arm")
	}
	if _, e := r.Read(0, 0); e != api.OK {
		t.Error(int(e))
	}
	if e := r.Write(0, 0, full("a")); e != api.ErrDown || !r.Down() || r.Calls() != 2 {
		t.Error(int(e))
	}
	has(t, r, 0, 0, full("\x00"))
	_, e1 := r.Read(0, 0)
	_, e2 := r.Reg()
	if e1 != api.ErrDown || e2 != api.ErrDown || r.Flush(0) != api.ErrDown || r.SetReg(register("x")) != api.ErrDown || r.Calls() != 2 {
		t.Error("down, but steps")
	}
	if r.Write(0, 0, "") != api.ErrForm || r.Tamper(0, 1, full("t")) != api.OK {
		t.Error("down")
	}
	has(t, r, 0, 1, full("t"))
	r.Crash(api.Loss{}, api.Loss{})
	if s, e := r.Reg(); s != register("\x00") || e != api.OK || r.Down() {
		t.Error(int(e))
	}
	if r.Arm(1<<40) != api.OK || r.Fault(1<<40) != api.OK || r.Later(1<<40, 0, 0, full("x")) != api.OK {
		t.Error("the greatest count")
	}
	r.Fault(1)
	r.Fault(3)
	r.Write(1, 1, full("a"))
	r.Flush(1)
	if e := r.SetReg(register("x")); e != api.ErrIO || r.Down() {
		t.Error(int(e))
	}
	if s, e := r.Reg(); s != register("\x00") || e != api.OK {
		t.Error(int(e))
	}
	r.Fault(1)
	if e := r.Flush(1); e != api.ErrIO {
		t.Error(int(e))
	}
	r.Fault(1)
	if s, e := r.Read(1, 1); s != "" || e != api.ErrIO {
		t.Error(int(e))
	}
	r.Fault(1)
	if e := r.Write(1, 1, full("b")); e != api.ErrIO {
		t.Error(int(e))
	}
	has(t, r, 1, 1, full("a"))
	r.Arm(1)
	r.Fault(1)
	if s, e := r.Reg(); s != "" || e != api.ErrDown {
		t.Error(int(e))
	}
}

func TestLater(t *testing.T) { // P12.2
	r := rig.New()
	r.Later(5, 0, 8, full("x"))
	if r.Later(2, 1, 7, full("t")) != api.OK {
		t.Error("Later")
	}
	if s, _ := r.Read(1, 7); s != full("\x00") {
		t.Error(s)
	}
	if s, _ := r.Read(1, 7); s != full("t") {
		t.Error("ahead of the step's call")
	}
	for range 5 {
		r.Reg()
	}
	has(t, r, 0, 8, full("\x00")) // the later one came instead
	r.Later(1, 1, 7, full("u"))
	r.Arm(1)
	r.Reg()
	has(t, r, 1, 7, full("u"))
	r.Crash(api.Loss{}, api.Loss{})
	r.Write(1, 7, full("w"))
	r.Later(1, 1, 7, full("v"))
	r.Fault(1)
	r.Flush(1)
	r.Crash(api.Loss{}, api.Loss{})
	has(t, r, 1, 7, full("v"))
}

func TestCrash(t *testing.T) { // P12.3
	r := rig.New()
	r.Write(0, 3, full("a"))
	r.Write(1, 3, full("b"))
	r.Write(1, 4, full("c"))
	r.SetReg(register("r"))
	r.Later(1, 0, 9, full("t"))
	r.Arm(1)
	r.Fault(1)
	if r.Crash(api.Loss{Torn: 3, Bytes: 1}, api.Loss{Keep: []bool{false, false, false, false, true}, Torn: -1}) != api.OK {
		t.Error("Crash")
	}
	has(t, r, 0, 3, "a"+full("\x00")[1:])
	has(t, r, 1, 3, full("\x00"))
	has(t, r, 1, 4, full("c"))
	if s, e := r.Reg(); s != register("r") || e != api.OK {
		t.Error(int(e))
	}
	has(t, r, 0, 9, full("\x00"))
	if r.Calls() != 5 {
		t.Error(r.Calls())
	}
}

func TestLooks(t *testing.T) { // P12.4
	var none *rig.Rig
	if none.Down() || none.Calls() != 0 || none.Dev(0) != nil || none.Copy() != nil {
		t.Error("nil")
	}
	r := rig.New()
	if r.Dev(2) != nil || r.Dev(-1) != nil || r.Dev(0) == r.Dev(1) || r.Dev(0).Blocks() != 288 || r.Dev(1).Blocks() != 288 {
		t.Error("Dev")
	}
	r.Write(0, 0, full("a"))
	r.SetReg(register("r"))
	r.Arm(2)
	r.Later(1, 0, 1, full("t"))
	c := r.Copy()
	if c.Calls() != 2 || c.Dev(0) == r.Dev(0) {
		t.Error("Copy")
	}
	c.Write(0, 0, full("b"))
	c.SetReg(register("s"))
	if !c.Down() || r.Down() || r.Calls() != 2 || c.Calls() != 4 {
		t.Error("Copy")
	}
	has(t, r, 0, 0, full("a"))
	has(t, c, 0, 0, full("b"))
	has(t, c, 0, 1, full("t"))
	has(t, r, 0, 1, full("\x00"))
	c.Crash(api.Loss{}, api.Loss{})
	c.SetReg(register("s"))
	if s, _ := r.Reg(); s != register("r") {
		t.Error(s)
	}
}

func TestWhole(t *testing.T) { // P12.5
	r := rig.New()
	last := register("\x00")
	for i := range 40 {
		switch i % 5 {
		case 1:
			r.Fault(1)
		case 2:
			r.Arm(1)
		case 3:
			r.Crash(api.Loss{}, api.Loss{})
		}
		s := register(string([]byte{byte('a' + i)}))
		if r.SetReg(s) == api.OK {
			last = s
		}
		c := r.Copy()
		c.Crash(api.Loss{}, api.Loss{})
		if got, e := c.Reg(); got != last || e != api.OK {
			t.Error(i)
		}
	}
}
