package node_test

import (
	"crypto/sha256"
	"math"
	"slices"
	"strings"
	"testing"

	"cellaret/api"
	"cellaret/node"
	"cellaret/oracle"
)

func sum(s string) api.Digest { return sha256.Sum256([]byte(s)) }

func full(c string) string { return strings.Repeat(c, 64) }

func TestPathSideBelow(t *testing.T) { // P17.1, P17.4
	if l, e := node.Path(0); !slices.Equal(l, []int{31, 15, 7, 3, 1, 0}) || e != api.OK {
		t.Error(l)
	}
	if l, e := node.Path(63); !slices.Equal(l, []int{62, 30, 14, 6, 2, 0}) || e != api.OK {
		t.Error(l)
	}
	for _, leaf := range []int{-1, 64, math.MinInt, math.MaxInt} {
		if l, e := node.Path(leaf); l != nil || e != api.ErrRange {
			t.Error(leaf)
		}
		if s, e := node.Side(leaf, 0); s != 0 || e != api.ErrRange {
			t.Error(leaf)
		}
	}
	if s, e := node.Side(63, 0); s != 1 || e != api.OK {
		t.Error(s)
	}
	for leaf := range 64 {
		path, _ := node.Path(leaf)
		at := 0
		for i := 5; i >= 0; i-- { // from the root down
			if path[i] != at {
				t.Fatal(leaf, path, at)
			}
			side, e := node.Side(leaf, at)
			if e != api.OK {
				t.Fatal(leaf, at)
			}
			below, isLeaf, e := node.Below(at, side)
			if e != api.OK || isLeaf != (i == 0) {
				t.Fatal(leaf, at)
			}
			at = below
		}
		if at != leaf {
			t.Error(leaf, at)
		}
		for n := -2; n < 130; n++ {
			if s, e := node.Side(leaf, n); slices.Contains(path, n) != (e == api.OK) || e != api.OK && (s != 0 || e != api.ErrRange) {
				t.Fatal(leaf, n)
			}
		}
	}
	for _, c := range [][2]int{{-1, 0}, {63, 0}, {0, 2}, {0, -1}, {math.MaxInt, 0}, {math.MinInt, 0}, {0, math.MaxInt}} {
		if n, leaf, e := node.Below(c[0], c[1]); n != 0 || leaf || e != api.ErrRange {
			t.Error(c)
		}
	}
	if n, leaf, e := node.Below(30, 1); n != 62 || leaf || e != api.OK {
		t.Error(n, leaf)
	}
	if n, leaf, e := node.Below(31, 0); n != 0 || !leaf || e != api.OK {
		t.Error(n, leaf)
	}
}

func TestSums(t *testing.T) { // P17.2
	o := oracle.New()
	for _, x := range []*oracle.Oracle{o, nil} {
		if d, e := node.Leaf(x, full("a")); d != sum("\x00"+full("a")) || e != api.OK {
			t.Error("Leaf")
		}
		if d, e := node.Node(x, full("a")); d != sum("\x01"+full("a")) || e != api.OK {
			t.Error("Node")
		}
	}
	for _, s := range []string{"", full("a")[1:], full("a") + "a"} {
		d, e := node.Leaf(o, s)
		f, g := node.Node(o, s)
		h, i := node.Split(s, 9)
		j, k := node.With(s, 9, sum("x"))
		if d != f || d != h || d != (api.Digest{}) || j != "" || e != api.ErrForm || g != api.ErrForm || i != api.ErrForm || k != api.ErrForm {
			t.Error(len(s))
		}
	}
	if o.Len() != 2 {
		t.Error("the oracle's sums", o.Len())
	}
	a, b, c := sum("a"), sum("b"), sum("c")
	block := string(a[:]) + string(b[:])
	if d, e := node.Split(block, 0); d != a || e != api.OK {
		t.Error("Split")
	}
	if d, e := node.Split(block, 1); d != b || e != api.OK {
		t.Error("Split")
	}
	if s, e := node.With(block, 0, c); s != string(c[:])+string(b[:]) || e != api.OK {
		t.Error("With")
	}
	if s, e := node.With(block, 1, c); s != string(a[:])+string(c[:]) || e != api.OK {
		t.Error("With")
	}
	for _, side := range []int{-1, 2, math.MaxInt} {
		d, e := node.Split(block, side)
		s, f := node.With(block, side, c)
		if d != (api.Digest{}) || s != "" || e != api.ErrRange || f != api.ErrRange {
			t.Error(side)
		}
	}
}

func leaves() []api.Digest {
	var l []api.Digest
	for i := range 64 {
		l = append(l, sum(string([]byte{byte(i)})))
	}
	return l
}

// below is a node's sum by the definition.
func below(l []api.Digest, n int) api.Digest {
	if n >= 63 {
		return l[n-63]
	}
	a, b := below(l, 2*n+1), below(l, 2*n+2)
	return sum("\x01" + string(a[:]) + string(b[:]))
}

func TestRoot(t *testing.T) { // P17.3
	l := leaves()
	for _, o := range []*oracle.Oracle{nil, oracle.New()} {
		if d, e := node.Root(o, l); d != below(l, 0) || e != api.OK {
			t.Error("Root")
		}
		if o != nil && o.Len() != 63 {
			t.Error(o.Len())
		}
	}
	if !slices.Equal(l, leaves()) {
		t.Error("what was handed in was changed")
	}
	for _, n := range []int{0, 1, 63, 65} {
		if d, e := node.Root(nil, make([]api.Digest, n)); d != (api.Digest{}) || e != api.ErrForm {
			t.Error(n)
		}
	}
}

func TestBareHigh(t *testing.T) { // P17.3
	block, d := full("\x00"), sum("\x00"+full("\x00"))
	for h := range 7 {
		for _, o := range []*oracle.Oracle{nil, oracle.New()} {
			if b, x, e := node.Bare(o, h); b != block || x != d || e != api.OK {
				t.Error(h)
			}
		}
		block = string(d[:]) + string(d[:])
		d = sum("\x01" + block)
	}
	for _, h := range []int{-1, 7, math.MaxInt} {
		if b, x, e := node.Bare(nil, h); b != "" || x != (api.Digest{}) || e != api.ErrRange {
			t.Error(h)
		}
	}
	for n, h := range map[int]int{0: 6, 1: 5, 2: 5, 3: 4, 6: 4, 7: 3, 14: 3, 15: 2, 30: 2, 31: 1, 62: 1} {
		if x, e := node.High(n); x != h || e != api.OK {
			t.Error(n, x)
		}
	}
	for _, n := range []int{-1, 63, math.MaxInt, math.MinInt} {
		if x, e := node.High(n); x != 0 || e != api.ErrRange {
			t.Error(n)
		}
	}
	_, bare, _ := node.Bare(nil, 0)
	_, root, _ := node.Bare(nil, 6)
	if x, _ := node.Root(nil, slices.Repeat([]api.Digest{bare}, 64)); x != root {
		t.Error("Bare and Root")
	}
}

func TestSameApart(t *testing.T) { // P17.3, P17.5
	o := oracle.New()
	if !node.Same(o, leaves(), leaves()) || node.Same(o, leaves()[:63], leaves()[:63]) || node.Same(o, nil, nil) || node.Same(o, leaves(), nil) || node.Same(o, nil, leaves()) {
		t.Error("Same")
	}
	for i := range 64 {
		l := leaves()
		l[i][i%32] ^= 1
		if node.Same(o, l, leaves()) || node.Same(nil, leaves(), l) {
			if _, _, found := o.Collide(); !found {
				t.Error(i)
			}
		}
	}
	l := leaves()
	l[3], l[4] = l[4], l[3]
	if node.Same(o, l, leaves()) {
		t.Error("swapped")
	}
}
