package geom_test

import (
	"math"
	"strings"
	"testing"

	"cellaret/api"
	"cellaret/geom"
)

var check = strings.Repeat("k", 32)

func TestCheck(t *testing.T) { // P9.1
	for _, c := range []struct {
		g api.Geom
		e api.Errno
	}{
		{api.Geom{Blocks: 4, Slots: 1, MaxIV: 1}, api.OK}, {api.Geom{Blocks: 64, Slots: 8, MaxIV: 1 << 40}, api.OK}, {api.Geom{Blocks: 12, Slots: 3, MaxIV: 7}, api.OK},
		{api.Geom{}, api.ErrArg}, {api.Geom{Blocks: 0, Slots: 1, MaxIV: 1}, api.ErrArg}, {api.Geom{Blocks: 6, Slots: 1, MaxIV: 1}, api.ErrArg}, {api.Geom{Blocks: 68, Slots: 1, MaxIV: 1}, api.ErrArg},
		{api.Geom{Blocks: -4, Slots: 1, MaxIV: 1}, api.ErrArg}, {api.Geom{Blocks: 4, Slots: 0, MaxIV: 1}, api.ErrArg}, {api.Geom{Blocks: 4, Slots: 9, MaxIV: 1}, api.ErrArg},
		{api.Geom{Blocks: 4, Slots: 1, MaxIV: 0}, api.ErrArg}, {api.Geom{Blocks: 4, Slots: 1, MaxIV: 1<<40 + 1}, api.ErrArg}, {api.Geom{Blocks: math.MinInt, Slots: math.MaxInt, MaxIV: -1}, api.ErrArg},
	} {
		if e := geom.Check(c.g); e != c.e {
			t.Error(c.g, int(e))
		}
		s, e := geom.Super(c.g, check)
		if e != c.e || e != api.OK && s != "" {
			t.Error(c.g, int(e))
		}
		if e != api.OK {
			continue
		}
		if g, x, e := geom.Read(s); g != c.g || x != check || e != api.OK {
			t.Error(g, x, int(e))
		}
	}
}

func TestSuper(t *testing.T) { // P9.1
	g := api.Geom{Blocks: 8, Slots: 2, MaxIV: 258}
	s, e := geom.Super(g, check)
	if e != api.OK || s != "clrt\x00\x08\x00\x02\x00\x00\x00\x00\x00\x00\x01\x02"+strings.Repeat("\x00", 16)+check {
		t.Errorf("%q", s)
	}
	for _, n := range []int{0, 31, 33} {
		if s, e := geom.Super(g, strings.Repeat("x", n)); s != "" || e != api.ErrArg {
			t.Error(n)
		}
	}
}

func TestRead(t *testing.T) { // P9.1
	s, _ := geom.Super(api.Geom{Blocks: 8, Slots: 2, MaxIV: 258}, check)
	bad := []string{"", s[:63], s + "x", strings.Repeat("\x00", 64), "clrT" + s[4:], s[:4] + "\x00\x07" + s[6:], s[:4] + "\x01\x00" + s[6:], s[:6] + "\x00\x00" + s[8:], s[:6] + "\x00\x09" + s[8:],
		s[:8] + "\x00\x00\x00\x00\x00\x00\x00\x00" + s[16:], s[:8] + "\x80\x00\x00\x00\x00\x00\x00\x01" + s[16:], s[:8] + "\x00\x00\x01\x00\x00\x00\x00\x01" + s[16:]}
	for i := 16; i < 32; i++ {
		bad = append(bad, s[:i]+"\x01"+s[i+1:])
	}
	for i, x := range bad {
		if g, c, e := geom.Read(x); g != (api.Geom{}) || c != "" || e != api.ErrForm {
			t.Error(i, g, c, int(e))
		}
	}
}

func TestPlaces(t *testing.T) { // P9.2
	type answer struct {
		n int
		e api.Errno
	}
	one := func(n int, e api.Errno) answer { return answer{n, e} }
	for i, c := range []struct{ got, want answer }{
		{one(geom.AreaAt(0, 0)), one(1, 0)}, {one(geom.AreaAt(0, 79)), one(80, 0)}, {one(geom.AreaAt(1, 0)), one(81, 0)}, {one(geom.AreaAt(1, 79)), one(160, 0)},
		{one(geom.AreaAt(0, 80)), one(0, api.ErrRange)}, {one(geom.AreaAt(0, -1)), one(0, api.ErrRange)}, {one(geom.AreaAt(2, 0)), one(0, api.ErrRange)}, {one(geom.AreaAt(-1, 0)), one(0, api.ErrRange)},
		{one(geom.NodeAt(0)), one(161, 0)}, {one(geom.NodeAt(62)), one(223, 0)}, {one(geom.NodeAt(63)), one(0, api.ErrRange)}, {one(geom.NodeAt(-1)), one(0, api.ErrRange)},
		{one(geom.LeafAt(0)), one(224, 0)}, {one(geom.LeafAt(63)), one(287, 0)}, {one(geom.LeafAt(64)), one(0, api.ErrRange)}, {one(geom.LeafAt(-1)), one(0, api.ErrRange)},
		{one(geom.SlotLeaf(0, 0)), one(0, 0)}, {one(geom.SlotLeaf(7, 3)), one(31, 0)}, {one(geom.SlotLeaf(2, 1)), one(9, 0)}, {one(geom.SlotLeaf(8, 0)), one(0, api.ErrRange)},
		{one(geom.SlotLeaf(0, 4)), one(0, api.ErrRange)}, {one(geom.SlotLeaf(-1, 0)), one(0, api.ErrRange)}, {one(geom.SlotLeaf(0, -1)), one(0, api.ErrRange)},
		{one(geom.NodeAt(math.MaxInt)), one(0, api.ErrRange)}, {one(geom.LeafAt(math.MinInt)), one(0, api.ErrRange)}, {one(geom.AreaAt(math.MaxInt, 1)), one(0, api.ErrRange)},
	} {
		if c.got != c.want {
			t.Error(i, c.got)
		}
	}
	for _, b := range []int{-1, 288, math.MinInt, math.MaxInt} {
		if k, i, e := geom.What(b); k != 0 || i != 0 || e != api.ErrRange {
			t.Error(b)
		}
	}
	for _, b := range []int{-1, 64, math.MinInt, math.MaxInt} {
		if k, i, e := geom.Place(b); k != 0 || i != 0 || e != api.ErrRange {
			t.Error(b)
		}
	}
	for b := range 64 {
		if k, i, e := geom.Place(b); k != b/4 || i != b%4 || e != api.OK {
			t.Error(b)
		}
	}
	if geom.Size != 288 || geom.Table != 63 {
		t.Error("constants")
	}
}

func TestSpan(t *testing.T) { // P9.3
	g := api.Geom{Blocks: 12, Slots: 1, MaxIV: 1}
	for _, c := range []struct {
		g     api.Geom
		at, n int
		e     api.Errno
	}{
		{g, 0, 1, 0}, {g, 4, 8, 0}, {g, 11, 1, 0}, {g, 5, 8, api.ErrRange}, {g, 12, 1, api.ErrRange}, {g, -1, 1, api.ErrRange}, {g, math.MaxInt, 8, api.ErrRange}, {g, math.MinInt, 8, api.ErrRange},
		{g, -1, 0, api.ErrArg}, {g, 0, 9, api.ErrArg}, {g, 0, -1, api.ErrArg}, {g, 0, math.MinInt, api.ErrArg}, {api.Geom{Blocks: 13, Slots: 1, MaxIV: 1}, 0, 1, api.ErrArg}, {api.Geom{}, 99, 1, api.ErrArg},
		{api.Geom{Blocks: 4, Slots: 1, MaxIV: 1}, 0, 8, api.ErrRange},
	} {
		if e := geom.Span(c.g, c.at, c.n); e != c.e {
			t.Error(c, int(e))
		}
	}
}

func TestApart(t *testing.T) { // P9.4
	seen := map[[2]int]bool{}
	for b := range geom.Size {
		k, i, e := geom.What(b)
		if e != api.OK || seen[[2]int{k, i}] {
			t.Fatal(b, k, i)
		}
		seen[[2]int{k, i}] = true
		back := 0
		switch k {
		case 1, 2:
			back, e = geom.AreaAt(k-1, i)
		case 3:
			back, e = geom.NodeAt(i)
		case 4:
			back, e = geom.LeafAt(i)
		}
		if back != b || e != api.OK {
			t.Error(b, k, i, back)
		}
	}
	if k, i, e := geom.What(0); k != 0 || i != 0 || e != api.OK {
		t.Error(k, i)
	}
	if k, i, _ := geom.What(81); k != 2 || i != 0 {
		t.Error(k, i)
	}
}
