package view_test

import (
	"slices"
	"strings"
	"testing"

	"cellaret/aes"
	"cellaret/api"
	"cellaret/ctr"
	"cellaret/geom"
	"cellaret/view"
	"cellaret/world"
)

var nothing = strings.Repeat("\x00", 288*64)

func full(c string) string { return strings.Repeat(c, 64) }

// with is an image with other blocks.
func with(image string, blocks map[int]string) string {
	for i, b := range blocks {
		image = image[:64*i] + b + image[64*i+64:]
	}
	return image
}

func sealed(t *testing.T, n int, s string) string {
	t.Helper()
	k, _ := aes.New(strings.Repeat("k", 32))
	b, e := ctr.Seal(k, n, world.Data(s))
	if e != api.OK {
		t.Fatal(int(e))
	}
	return b
}

func TestForm(t *testing.T) { // P33.1 .. P33.3
	for _, s := range []string{"", nothing[1:], nothing[64:], nothing + "x", nothing + full("x")} {
		l, e1 := view.Look(s)
		n, e2 := view.Count(s)
		d, e3 := view.Differ(s, nothing, true)
		f, e4 := view.Differ(nothing, s, false)
		m, e5 := view.Fresh([]string{nothing, s})
		if l != nil || n != [5]int{} || d != nil || f != nil || m != 0 {
			t.Error(len(s))
		}
		for _, e := range []api.Errno{e1, e2, e3, e4, e5} {
			if e != api.ErrForm {
				t.Error(len(s), int(e))
			}
		}
	}
}

func TestLookCount(t *testing.T) { // P33.1
	plain, _ := ctr.Lay(7, world.Data("p"))
	s := with(nothing, map[int]string{0: full("a"), 1: full("b"), 80: sealed(t, 5, "x"), 81: full("c"), 170: sealed(t, 6, "x"), 171: full("d"), 223: full("\x01"), 224: sealed(t, 1<<40, "x"), 225: plain, 287: full("e"), 230: sealed(t, 0, "y"), 231: full("\x00")[1:] + "\x01"})
	l, e := view.Look(s)
	if e != api.OK || len(l) != 288 {
		t.Fatal(len(l), int(e))
	}
	for i, x := range l {
		what, index, _ := geom.What(i)
		want := api.Seen{What: what, Index: index, Number: -1, Zero: s[64*i:64*i+64] == full("\x00")}
		switch i {
		case 224:
			want.Number = 1 << 40
		case 230:
			want.Number = 0
		}
		if x != want {
			t.Error(i, x)
		}
	}
	if n, e := view.Count(s); n != [5]int{1, 2, 1, 3, 5} || e != api.OK {
		t.Error(n)
	}
	if n, e := view.Count(nothing); n != [5]int{} || e != api.OK {
		t.Error(n)
	}
}

func TestDiffer(t *testing.T) { // P33.2, P33.4
	s := with(nothing, map[int]string{0: full("a"), 5: full("b")})
	if l, e := view.Differ(s, with(s, map[int]string{227: full("x")}), true); !slices.Equal(l, []int{227}) || e != api.OK {
		t.Error(l)
	}
	if l, _ := view.Differ(s, with(s, map[int]string{287: full("x"), 5: full("b")[1:] + "c", 161: "x" + full("\x00")[1:]}), false); !slices.Equal(l, []int{5, 161, 287}) {
		t.Error(l)
	}
	for k := range 64 {
		b := []byte(full("a"))
		b[k] = 'b'
		other := with(s, map[int]string{0: string(b)})
		for _, slow := range []bool{true, false} {
			want := []int{0}
			if slow && k >= 32 {
				want = nil
			}
			if l, e := view.Differ(s, other, slow); !slices.Equal(l, want) || e != api.OK {
				t.Error(k, slow, l)
			}
		}
	}
	for _, slow := range []bool{true, false} {
		if l, e := view.Differ(s, s, slow); len(l) != 0 || e != api.OK {
			t.Error(l)
		}
	}
}

func TestFresh(t *testing.T) { // P33.3
	a, b, c := sealed(t, 5, "a"), sealed(t, 6, "b"), sealed(t, 7, "c")
	plain, _ := ctr.Lay(5, world.Data("p"))
	one := with(nothing, map[int]string{224: a, 230: b, 231: a, 240: plain, 100: sealed(t, 5, "z"), 170: sealed(t, 6, "z")})
	two := with(nothing, map[int]string{287: b, 286: c})
	for i, x := range []struct {
		l []string
		n int
		e api.Errno
	}{
		{nil, 0, 0}, {[]string{nothing}, 0, 0}, {[]string{with(nothing, map[int]string{224: sealed(t, 0, "a")})}, 1, 0}, {[]string{with(nothing, map[int]string{224: sealed(t, 0, "a"), 225: sealed(t, 0, "b")})}, 0, api.ErrTamper}, {[]string{one}, 2, 0}, {[]string{one, two, one}, 3, 0},
		{[]string{with(one, map[int]string{250: sealed(t, 5, "other")})}, 0, api.ErrTamper}, {[]string{one, two, with(nothing, map[int]string{224: sealed(t, 7, "other")})}, 0, api.ErrTamper},
		{[]string{with(one, map[int]string{250: sealed(t, 5, "other")}), "x"}, 0, api.ErrForm},
	} {
		if n, e := view.Fresh(x.l); n != x.n || e != x.e {
			t.Error(i, n, int(e))
		}
	}
}

func TestVolume(t *testing.T) { // P33.1, P33.3, P33.4: of a volume that is used
	w, e := world.New(api.Geom{Blocks: 16, Slots: 2, MaxIV: 100}, "k")
	if e != api.OK {
		t.Fatal(int(e))
	}
	v, _ := world.New(api.Geom{Blocks: 16, Slots: 2, MaxIV: 100}, "another")
	if l, _ := view.Differ(w.Rig().Dev(0).Image(), v.Rig().Dev(0).Image(), true); len(l) != 0 {
		t.Error(l)
	}
	if l, _ := view.Differ(w.Rig().Dev(0).Image(), v.Rig().Dev(0).Image(), false); !slices.Equal(l, []int{0}) {
		t.Error(l)
	}
	var images []string
	for i := range 40 {
		w.Do(api.Act{Kind: api.XPromote, A: i % 4})
		w.Do(api.Act{Kind: api.XFUA, A: i % 16, S: "x"})
		w.Do(api.Act{Kind: api.XTick, A: i})
		images = append(images, w.Rig().Dev(0).Image(), w.Rig().Dev(1).Image())
	}
	if n, e := view.Fresh(images); n < 16 || n > 40 || e != api.OK {
		t.Error(n, int(e))
	}
}
