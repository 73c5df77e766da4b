package be_test

import (
	"math"
	"strings"
	"testing"

	"cellaret/api"
	"cellaret/be"
)

func TestPutGet(t *testing.T) { // P1.1
	for _, c := range []struct {
		n, width int
		s        string
		e        api.Errno
	}{
		{258, 2, "\x01\x02", api.OK}, {256, 1, "", api.ErrRange}, {255, 1, "\xff", api.OK},
		{0, 0, "", api.ErrArg}, {0, 9, "", api.ErrArg}, {-1, 9, "", api.ErrArg}, {5, -1, "", api.ErrArg}, {5, math.MinInt, "", api.ErrArg},
		{-1, 1, "", api.ErrRange}, {math.MinInt, 8, "", api.ErrRange}, {0, 3, "\x00\x00\x00", api.OK},
		{1<<56 - 1, 7, "\xff\xff\xff\xff\xff\xff\xff", api.OK}, {1 << 56, 7, "", api.ErrRange},
		{math.MaxInt, 8, "\x7f\xff\xff\xff\xff\xff\xff\xff", api.OK}, {1 << 16, 2, "", api.ErrRange},
	} {
		if s, e := be.Put(c.n, c.width); s != c.s || e != c.e {
			t.Errorf("Put(%d, %d): %q, %d", c.n, c.width, s, int(e))
		}
	}
	for _, c := range []struct {
		s string
		n int
		e api.Errno
	}{
		{"", 0, api.ErrShort}, {"\x00\x00\x00\x00\x00\x00\x00\x00\x01", 0, api.ErrBig}, {"\x80\x00\x00\x00\x00\x00\x00\x00", 0, api.ErrRange},
		{"\xff\xff\xff\xff\xff\xff\xff\xff", 0, api.ErrRange}, {"\x7f\xff\xff\xff\xff\xff\xff\xff", math.MaxInt, api.OK},
		{"\xff", 255, api.OK}, {"\x01\x02", 258, api.OK}, {"\xff\xff\xff\xff\xff\xff\xff", 1<<56 - 1, api.OK},
	} {
		if n, e := be.Get(c.s); n != c.n || e != c.e {
			t.Errorf("Get(%q): %d, %d", c.s, n, int(e))
		}
	}
}

func TestPad(t *testing.T) { // P1.2
	for _, c := range []struct {
		s     string
		width int
		out   string
		e     api.Errno
	}{
		{"a", 3, "a\x00\x00", api.OK}, {"", 0, "", api.OK}, {"abc", 3, "abc", api.OK}, {"abcd", 3, "", api.ErrBig},
		{"abcd", -1, "", api.ErrArg}, {"", 4097, "", api.ErrArg}, {"x", 4096, "x" + strings.Repeat("\x00", 4095), api.OK},
		{strings.Repeat("x", 5000), 4096, "", api.ErrBig}, {strings.Repeat("x", 5000), 5000, "", api.ErrArg},
	} {
		if s, e := be.Pad(c.s, c.width); s != c.out || e != c.e {
			t.Errorf("Pad(%q, %d): %q, %d", c.s, c.width, s, int(e))
		}
	}
}

func TestRow(t *testing.T) { // P1.2
	for _, c := range []struct {
		width int
		l     []int
		s     string
		e     api.Errno
	}{
		{2, []int{1, 258}, "\x00\x01\x01\x02", api.OK}, {1, nil, "", api.OK}, {0, nil, "", api.ErrArg}, {9, []int{-1}, "", api.ErrArg},
		{1, []int{1, 256}, "", api.ErrRange}, {1, []int{-1, 1}, "", api.ErrRange}, {1, make([]int, 512), strings.Repeat("\x00", 512), api.OK},
		{1, make([]int, 513), "", api.ErrBig}, {0, make([]int, 513), "", api.ErrBig},
	} {
		if s, e := be.Row(c.width, c.l...); s != c.s || e != c.e {
			t.Errorf("Row(%d, %d numbers): %q, %d", c.width, len(c.l), s, int(e))
		}
	}
}

func TestXor(t *testing.T) { // P1.2, P1.6
	if _, e := be.Xor("a", ""); e != api.ErrForm {
		t.Error(int(e))
	}
	if s, e := be.Xor("", ""); s != "" || e != api.OK {
		t.Error(s, int(e))
	}
	if s, e := be.Xor("\x0f\xff", "\x35\x01"); s != "\x3a\xfe" || e != api.OK {
		t.Errorf("%q %d", s, int(e))
	}
	a, b := "some text or other", "another one, as lon"[:18]
	x, _ := be.Xor(a, b)
	if y, e := be.Xor(x, b); y != a || e != api.OK || x == a {
		t.Errorf("%q %d", y, int(e))
	}
}

func TestReader(t *testing.T) { // P1.3
	var none *be.Reader
	n, e1 := none.Num(9)
	s, e2 := none.Bytes(-1)
	if n != 0 || s != "" || e1 != api.ErrNil || e2 != api.ErrNil || none.Left() != 0 || none.End() != api.ErrNil {
		t.Error("nil reader")
	}
	r := be.Read("\x01\x02abc")
	if n, e := r.Num(0); n != 0 || e != api.ErrArg {
		t.Error(n, int(e))
	}
	if n, e := r.Num(9); n != 0 || e != api.ErrArg {
		t.Error(n, int(e))
	}
	if n, e := r.Num(6); n != 0 || e != api.ErrShort || r.Left() != 5 {
		t.Error(n, int(e))
	}
	if n, e := r.Num(2); n != 258 || e != api.OK || r.Left() != 3 {
		t.Error(n, int(e))
	}
	if s, e := r.Bytes(-1); s != "" || e != api.ErrArg {
		t.Error(s, int(e))
	}
	if s, e := r.Bytes(4); s != "" || e != api.ErrShort {
		t.Error(s, int(e))
	}
	if s, e := r.Bytes(math.MaxInt); s != "" || e != api.ErrShort {
		t.Error(s, int(e))
	}
	if s, e := r.Bytes(0); s != "" || e != api.OK || r.Left() != 3 {
		t.Error(s, int(e))
	}
	if s, e := r.Bytes(2); s != "ab" || e != api.OK || r.End() != api.ErrForm {
		t.Error(s, int(e))
	}
	if s, e := r.Bytes(1); s != "c" || e != api.OK || r.End() != api.OK || r.Left() != 0 {
		t.Error(s, int(e))
	}
	r = be.Read("\x80\x00\x00\x00\x00\x00\x00\x05")
	if n, e := r.Num(8); n != 0 || e != api.ErrRange || r.Left() != 8 {
		t.Error(n, int(e), r.Left())
	}
	if n, e := r.Num(4); n != 1<<31 || e != api.OK {
		t.Error(n, int(e))
	}
}

func TestThereAndBack(t *testing.T) { // P1.4
	all, row := "", []int{}
	for width := 1; width <= 8; width++ {
		for _, n := range []int{0, 1, 77, 1<<(8*width-1) - 1} {
			s, e := be.Put(n, width)
			if m, e2 := be.Get(s); e != api.OK || e2 != api.OK || m != n || len(s) != width {
				t.Error(n, width)
			}
			if width == 3 {
				row = append(row, n)
			}
		}
	}
	all, _ = be.Row(3, row...)
	r := be.Read(all)
	for _, n := range row {
		if m, e := r.Num(3); m != n || e != api.OK {
			t.Error(m, n)
		}
	}
	if r.End() != api.OK {
		t.Error("bytes are left")
	}
}

func TestOrder(t *testing.T) { // P1.5
	l := []int{0, 1, 2, 127, 128, 255, 256, 257, 511, 65535, 65536, 1<<23 + 5, 1<<24 - 1}
	for i, a := range l {
		for j, b := range l {
			s, _ := be.Put(a, 3)
			u, _ := be.Put(b, 3)
			if (s < u) != (i < j) {
				t.Error(a, b)
			}
		}
	}
}
