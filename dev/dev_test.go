package dev_test

import (
	"math"
	"strings"
	"testing"

	"cellaret/api"
	"cellaret/dev"
)

func full(c string) string { return strings.Repeat(c, 64) }

var zero = full("\x00")

func device(t *testing.T, n int) *dev.Dev {
	d, e := dev.New(n)
	if e != api.OK || d == nil {
		t.Fatal(n, int(e))
	}
	return d
}

func has(t *testing.T, d *dev.Dev, i int, want string) {
	t.Helper()
	if s, e := d.Read(i); s != want || e != api.OK {
		t.Errorf("block %d: %q, %d", i, s, int(e))
	}
}

func unsafe(d *dev.Dev, l ...int) bool {
	u := d.Unsafe()
	if len(u) != len(l) {
		return false
	}
	for i := range u {
		if u[i] != l[i] {
			return false
		}
	}
	return true
}

func TestNewOf(t *testing.T) { // P10.1
	for _, n := range []int{0, -1, 513, math.MinInt, math.MaxInt} {
		if d, e := dev.New(n); d != nil || e != api.ErrArg {
			t.Error(n)
		}
	}
	for _, n := range []int{1, 288, 512} {
		if d := device(t, n); d.Blocks() != n || d.Image() != strings.Repeat("\x00", 64*n) {
			t.Error(n)
		}
	}
	for n, want := range map[int]api.Errno{0: api.ErrArg, 1: api.ErrForm, 63: api.ErrForm, 65: api.ErrForm, 64 * 513: api.ErrArg, 64*513 + 1: api.ErrForm} {
		if d, e := dev.Of(strings.Repeat("x", n)); d != nil || e != want {
			t.Error(n, int(e))
		}
	}
	d, e := dev.Of(full("a") + full("b"))
	if e != api.OK || d.Blocks() != 2 || d.Image() != full("a")+full("b") || len(d.Unsafe()) != 0 {
		t.Error(int(e))
	}
	d.Write(0, full("c"))
	d.Crash(api.Loss{Torn: -1})
	has(t, d, 0, full("a"))
}

func TestErrors(t *testing.T) { // P10.2
	var none *dev.Dev
	_, e := none.Read(-1)
	if e != api.ErrNil || none.Write(-1, "") != api.ErrNil || none.Tamper(-1, "") != api.ErrNil || none.Flush() != api.ErrNil || none.Crash(api.Loss{}) != api.ErrNil {
		t.Error("nil")
	}
	d := device(t, 3)
	for _, i := range []int{-1, 3, math.MinInt, math.MaxInt} {
		if s, e := d.Read(i); s != "" || e != api.ErrRange {
			t.Error(i)
		}
		if d.Write(i, "") != api.ErrRange || d.Tamper(i, "") != api.ErrRange {
			t.Error(i)
		}
	}
	for _, n := range []int{0, 63, 65} {
		if d.Write(1, strings.Repeat("x", n)) != api.ErrForm || d.Tamper(1, strings.Repeat("x", n)) != api.ErrForm {
			t.Error(n)
		}
	}
	if len(d.Unsafe()) != 0 || d.Image() != strings.Repeat("\x00", 192) {
		t.Error("changed")
	}
}

func TestWriteFlushTamper(t *testing.T) { // P10.2
	d := device(t, 4)
	if d.Write(2, full("a")) != api.OK || !unsafe(d, 2) {
		t.Error("Write")
	}
	has(t, d, 2, full("a"))
	if d.Flush() != api.OK || !unsafe(d) {
		t.Error("Flush")
	}
	d.Write(2, full("b"))
	d.Write(0, full("c"))
	if d.Tamper(3, full("t")) != api.OK || d.Tamper(2, full("u")) != api.OK {
		t.Error("Tamper")
	}
	has(t, d, 3, full("t"))
	d.Crash(api.Loss{Torn: -1})
	if d.Image() != zero+zero+full("u")+full("t") {
		t.Errorf("%q", d.Image())
	}
}

func TestCrash(t *testing.T) { // P10.3
	d := device(t, 70)
	for _, i := range []int{0, 1, 5, 64, 65, 66, 69} {
		d.Write(i, full("a"))
	}
	d.Flush()
	for _, i := range []int{0, 1, 5, 64, 65, 66} {
		d.Write(i, full("b"))
	}
	keep := []bool{true, false, true}
	if d.Crash(api.Loss{Keep: keep, Torn: 5, Bytes: 10}) != api.OK {
		t.Error("Crash")
	}
	for i, c := range map[int]string{0: "b", 1: "a", 64: "b", 65: "a", 66: "b", 69: "a"} {
		has(t, d, i, full(c))
	}
	has(t, d, 5, strings.Repeat("b", 10)+strings.Repeat("a", 54))
	has(t, d, 2, zero)
	d.Crash(api.Loss{})
	has(t, d, 5, strings.Repeat("b", 10)+strings.Repeat("a", 54))
	for n, want := range map[int]string{-1: full("a"), 0: full("a"), 64: full("b"), 65: full("b"), math.MinInt: full("a"), math.MaxInt: full("b"), 63: strings.Repeat("b", 63) + "a"} {
		x := device(t, 2)
		x.Write(1, full("a"))
		x.Flush()
		x.Write(1, full("b"))
		x.Crash(api.Loss{Keep: []bool{true, false}, Torn: 1, Bytes: n})
		has(t, x, 1, want)
	}
	x := device(t, 70) // what is kept is not torn; what is torn goes by its own number
	x.Write(1, full("b"))
	x.Write(65, full("b"))
	x.Crash(api.Loss{Keep: []bool{false, true}, Torn: 65, Bytes: 3})
	has(t, x, 65, full("b"))
	x.Write(2, full("b"))
	x.Write(66, full("b"))
	x.Crash(api.Loss{Torn: 66, Bytes: 3})
	has(t, x, 2, zero)
	has(t, x, 66, "bbb"+zero[3:])
}

func TestLooks(t *testing.T) { // P10.4
	var none *dev.Dev
	if none.Unsafe() != nil || none.Blocks() != 0 || none.Image() != "" || none.Copy() != nil {
		t.Error("nil")
	}
	d := device(t, 5)
	d.Write(4, full("x"))
	d.Write(1, full("y"))
	d.Write(4, full("z"))
	if !unsafe(d, 1, 4) || d.Image() != zero+full("y")+zero+zero+full("z") {
		t.Error(d.Unsafe())
	}
	c := d.Copy()
	if !unsafe(c, 1, 4) || c.Image() != d.Image() {
		t.Error("copy")
	}
	c.Flush()
	c.Write(0, full("c"))
	d.Crash(api.Loss{Torn: -1})
	has(t, c, 1, full("y"))
	has(t, d, 1, zero)
	has(t, d, 0, zero)
	if !unsafe(c, 0) {
		t.Error("copies are one")
	}
	l := c.Unsafe()
	l[0] = 77
	if !unsafe(c, 0) {
		t.Error("shared")
	}
}

func TestFlushed(t *testing.T) { // P10.5
	for n := range 32 {
		d := device(t, 5)
		for i := range 5 {
			d.Write(i, full("f"))
		}
		d.Flush()
		d.Write(n%3, full("g"))
		var keep []bool
		for i := range n % 7 {
			keep = append(keep, n>>i&1 == 1)
		}
		d.Crash(api.Loss{Keep: keep, Torn: n % 5, Bytes: n * 3})
		for i := range 5 {
			if i != n%3 {
				has(t, d, i, full("f"))
			}
		}
	}
}
